/- Maps from nine cards to truth values: how many entries they have. -/
import Derived.Test.YtdhcdogmbclhaaaMp
import Derived.Test.YtdhcdogmbclhaaaYd
namespace Go.Proofs.Ytdhcdogmbclhaaa.planes
open Go.RowKit
open Go.Maps (Keyed)
open cards reg
set_option linter.unusedVariables false

theorem rowM9 : 37 < (Try.prog).types.size := of_decide_eq_true (by kernel_rfl)
theorem wideM9 : (match (Try.prog).underlying 37 with | some (.array _ _) | some (.struct _) => true | _ => false) = true := by rw [Try.underlying37]
theorem mlaw9 : Keyed Try.prog 37 := Keyed.of_law (deep_law_laid laidOutM (m := 3) (by omega) rowM9 (by kernel_rfl) wideM9)
theorem list9 {α : Type} {l : List α} (h : l.length = 9) : ∃ a b c d e f g i j, l = [a, b, c, d, e, f, g, i, j] := by
  match l, h with
  | [a, b, c, d, e, f, g, i, j], _ => exact ⟨a, b, c, d, e, f, g, i, j, rfl⟩
theorem key_lits9 (d : Nat) (l : List Cd) (hl : l.length = 9) (hok : l.all Cd.ok = true) : (Try.prog).keyLits (d + 3) 37 (av l).toList = some (l.map lits).flatten := by
  obtain ⟨x0, x1, x2, x3, x4, x5, x6, x7, x8, rfl⟩ := list9 hl
  simp only [List.all_cons, List.all_nil, Bool.and_true, Bool.and_eq_true] at hok
  obtain ⟨h0, h1, h2, h3, h4, h5, h6, h7, h8⟩ := hok
  have e : ∀ x : Cd, x.ok = true → (Try.prog).keyLits (d + 2) 33 [.int .i64 x.a, .int .i64 x.b, .int .i64 x.c, .int .i64 x.d] = some (lits x) := fun x hx => key_litsN d x hx
  have ce : (Try.prog).cellsOf 33 = 4 := by kernel_rfl
  have ct : (Try.prog).cellsOf 37 = 36 := by kernel_rfl
  unfold Program.keyLits
  rw [Try.underlying37]
  have hlen : (av [x0, x1, x2, x3, x4, x5, x6, x7, x8]).toList.length = 36 := rfl
  simp only [hlen, ct, ce, if_true]
  have hr : List.range 9 = [0, 1, 2, 3, 4, 5, 6, 7, 8] := rfl
  rw [hr]
  simp only [av, flat, Cd.cells, List.flatMap_cons, List.flatMap_nil, List.cons_append, List.nil_append, List.mapM_cons, List.mapM_nil, List.drop_zero, Nat.zero_mul, Nat.reduceMul, List.drop_succ_cons, List.take_succ_cons, List.take_zero, e x0 h0, e x1 h1, e x2 h2, e x3 h3, e x4 h4, e x5 h5, e x6 h6, e x7 h7, e x8 h8]
  rfl
/-- What nine cards read as, as a key. -/
def kl9 (l : List Cd) : Lit := .string (keyBytes (l.map lits).flatten)
theorem mkey9 {l : List Cd} (hl : l.length = 9) (h : l.all Cd.ok = true) : keyOf Try.prog 37 (.agg (av l)) = some (kl9 l) := by
  obtain ⟨d, hd⟩ : ∃ d, (Try.prog).types.size + 1 = d + 3 := ⟨(Try.prog).types.size - 2, by have h1 : 2 ≤ (Try.prog).types.size := of_decide_eq_true (by kernel_rfl); omega⟩
  have ht : (Try.prog).keyType 37 = true := by kernel_rfl
  have ct : (Try.prog).cellsOf 37 = 36 := by kernel_rfl
  have hf : (Value.agg (av l)).formed Try.prog 37 = true := by
    have : (flat l).length = 36 := by rw [flat_len, hl]
    simp [Value.formed, Try.underlying37, ct, this]
  unfold keyOf
  rw [Try.underlying37]
  simp only [ht, hf, Bool.and_self, if_true, hd]
  have e : (Value.agg (av l)).cells.toList = (av l).toList := rfl
  rw [e, key_lits9 d l hl h]
  rfl
theorem kl9_key {l : List Cd} (hl : l.length = 9) (h : l.all Cd.ok = true) : WideAt.IsKeyLit (kl9 l) := mlaw9.key (mkey9 hl h)
theorem kl9_inj {l m : List Cd} (hl : l.length = 9) (hm : m.length = 9) (h1 : l.all Cd.ok = true) (h2 : m.all Cd.ok = true) (h : kl9 l = kl9 m) : l = m := by
  have k1 := mkey9 hl h1
  have k2 := mkey9 hm h2
  rw [← h] at k2
  have e := mlaw9.inj k1 k2
  injection e with e
  have e2 : flat l = flat m := by
    have := congrArg Array.toList e
    simpa using this
  obtain ⟨x0, x1, x2, x3, x4, x5, x6, x7, x8, rfl⟩ := list9 hl
  obtain ⟨y0, y1, y2, y3, y4, y5, y6, y7, y8, rfl⟩ := list9 hm
  simp [flat, Cd.cells] at e2
  have ext : ∀ x y : Cd, x.a = y.a → x.b = y.b → x.c = y.c → x.d = y.d → x = y := fun x y a b c d => by cases x; cases y; simp_all
  obtain ⟨a1, a2, a3, a4, b1, b2, b3, b4, c1, c2, c3, c4, d1, d2, d3, d4, f1, f2, f3, f4, g1, g2, g3, g4, i1, i2, i3, i4, j1, j2, j3, j4, k1, k2, k3, k4⟩ := e2
  rw [ext x0 y0 a1 a2 a3 a4, ext x1 y1 b1 b2 b3 b4, ext x2 y2 c1 c2 c3 c4, ext x3 y3 d1 d2 d3 d4, ext x4 y4 f1 f2 f3 f4, ext x5 y5 g1 g2 g3 g4, ext x6 y6 i1 i2 i3 i4, ext x7 y7 j1 j2 j3 j4, ext x8 y8 k1 k2 k3 k4]

/-- Block g is a map of at most m entries; its keys are the planes of a list, each of them once. -/
def MapP (w : World) (g m : Nat) (Ls : List (List Cd)) : Prop := ∃ D : DataW Unit, w.ownsMap Try.prog 37 (plainElem Try.prog 4) g m D ∧ Maps.size D = Ls.length ∧ Ls.Nodup ∧ (∀ l, l ∈ Ls → l.length = 9 ∧ l.all Cd.ok = true) ∧ ∀ l : List Cd, l.length = 9 → l.all Cd.ok = true → (Maps.has D (kl9 l) = true ↔ l ∈ Ls)
theorem MapP.made (w : World) : MapP (w.alloc (.map #[] 0)) w.heap.size 0 [] := ⟨_, World.ownsMap_made w Try.prog _ _, rfl, List.nodup_nil, fun l h => absurd h (by simp), fun l _ _ => by simp [Maps.has_eq]⟩
theorem MapP.lt {w : World} {g m : Nat} {Ls : List (List Cd)} (h : MapP w g m Ls) : g < w.heap.size := by obtain ⟨D, h1, _⟩ := h; exact h1.lt
theorem MapP.kept {w w' : World} {g m : Nat} {Ls : List (List Cd)} {row : Option Nat} (h : MapP w g m Ls) (hg : w.grownBy w' row) (hne : some g ≠ row) : MapP w' g m Ls := by
  obtain ⟨D, h1, h2⟩ := h
  exact ⟨D, h1.kept hg hne, h2⟩
theorem MapP.below {w w1 : World} {g m : Nat} {Ls : List (List Cd)} (h : MapP w g m Ls) (hb : Below w.heap.size w w1) : MapP w1 g m Ls :=
  h.kept (row := none) ⟨hb.os, hb.tape, hb.output, hb.size, fun j hj _ => hb.block j hj⟩ (by simp)
theorem MapP.alloc {w : World} {g m : Nat} {Ls : List (List Cd)} (h : MapP w g m Ls) (o : Obj) : MapP (w.alloc o) g m Ls := h.kept (World.grownBy_alloc w o none) (by simp)
theorem MapP.mono {w : World} {g m m' : Nat} {Ls : List (List Cd)} (h : MapP w g m Ls) (hm : m ≤ m') : MapP w g m' Ls := by
  obtain ⟨D, h1, h2⟩ := h
  exact ⟨D, h1.mono hm, h2⟩
/-- One plane more, if it is not there. -/
noncomputable def addP (Ls : List (List Cd)) (l : List Cd) : List (List Cd) := if @decide (l ∈ Ls) (Classical.propDecidable _) = true then Ls else Ls ++ [l]
theorem addP_mem {Ls : List (List Cd)} {l x : List Cd} : x ∈ addP Ls l ↔ x ∈ Ls ∨ x = l := by
  unfold addP
  split
  · rename_i h
    have h := @of_decide_eq_true _ (Classical.propDecidable _) h
    exact ⟨fun hx => .inl hx, fun hx => by rcases hx with hx | rfl; exact hx; exact h⟩
  · simp
theorem plane_store {ops : Array Oper} {rest : List Oper} {o : Oper} {a : Act} {Q : Exit → Act → World → Prop} {w : World} (hg : o.guard = none) (m x v : Operand) (hop : o.op = Op.mapUpdate 57 m x v) (g n : Nat) (Ls : List (List Cd))
    (hm : a.eval m = .map (some g)) (hM : MapP w g n Ls) (hn : n < maxLen) (l : List Cd) (hl : l.length = 9) (hok : l.all Cd.ok = true) (hx : a.eval x = .agg (av l)) (hv : a.eval v = .bool true)
    (hK : ∀ w', MapP w' g (n + 1) (addP Ls l) → w.grownBy w' (some g) → wpList Try.prog ops Q rest (a.put o.dst undef) w') : wpList Try.prog ops Q (o :: rest) a w := by
  obtain ⟨D, h1, h2, h3, h4, h5⟩ := hM
  have hk := kl9_key hl hok
  refine wpList_mapUpdate_own w hg m x v _ hop 37 4 mlaw9 Try.underlying57 _ g n D hm h1 hn _ _ (kl9 l) hx hv (mkey9 hl hok) (.lit (.bool true)) [] (plainElem_bool Try.underlying4 true) ?_
  intro w' h6 h7
  have ht := h1.tidy mlaw9
  refine hK w' ⟨_, h6, ?_, ?_, ?_, ?_⟩ h7
  · rw [Maps.size_put ht]
    unfold addP
    by_cases hin : l ∈ Ls
    · rw [if_pos ((h5 l hl hok).2 hin), if_pos (@decide_eq_true _ (Classical.propDecidable _) hin)]; exact h2
    · rw [if_neg (fun e => hin ((h5 l hl hok).1 e)), if_neg (fun e => hin (@of_decide_eq_true _ (Classical.propDecidable _) e)), h2]; simp
  · unfold addP
    split
    · exact h3
    · rename_i hin
      have hin : l ∉ Ls := fun e => hin (@decide_eq_true _ (Classical.propDecidable _) e)
      rw [List.nodup_append]
      exact ⟨h3, by simp, fun z hz y hy e => by
        rw [List.mem_singleton] at hy
        rw [hy] at e
        rw [e] at hz
        exact hin hz⟩
  · intro x hx
    rcases addP_mem.1 hx with hx | rfl
    · exact h4 x hx
    · exact ⟨hl, hok⟩
  · intro x hx1 hx2
    rw [addP_mem]
    by_cases e : x = l
    · subst e
      rw [Maps.has_put_same h1.isMap hk]; simp
    · rw [Maps.has_put_other (fun e2 => e (kl9_inj hx1 hl hx2 hok e2)), h5 x hx1 hx2]
      simp [e]
end Go.Proofs.Ytdhcdogmbclhaaa.planes
