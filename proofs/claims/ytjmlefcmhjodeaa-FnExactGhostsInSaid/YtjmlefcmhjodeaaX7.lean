/- Maps from six numbers to truth values that a call makes: a set of ghosts. -/
import Derived.Test.YtjmlefcmhjodeaaX5
import Derived.Test.YtjmlefcmhjodeaaMp
namespace Go.Proofs.Ytjmlefcmhjodeaa.others
open Go.RowKit
open Go.Maps (Keyed)
open cards reg
set_option linter.unusedVariables false

theorem rowM6 : 87 < (Try.prog).types.size := of_decide_eq_true (by kernel_rfl)
theorem wideM6 : (match (Try.prog).underlying 87 with | some (.array _ _) | some (.struct _) => true | _ => false) = true := by rw [Try.underlying87]
set_option maxRecDepth 100000 in
theorem mlaw6 : Keyed Try.prog 87 := Keyed.of_law (deep_law_laid laidOutM (m := 2) (by omega) rowM6 (by kernel_rfl) wideM6)
/-- Are six numbers small? -/
def sm6 (x : A6) : Prop := (0 ≤ x.a ∧ x.a ≤ 1000) ∧ (0 ≤ x.b ∧ x.b ≤ 1000) ∧ (0 ≤ x.c ∧ x.c ≤ 1000) ∧ (0 ≤ x.d ∧ x.d ≤ 1000) ∧ (0 ≤ x.e ∧ x.e ≤ 1000) ∧ (0 ≤ x.f ∧ x.f ≤ 1000)
def lits6 (x : A6) : List Lit := [.int .i64 x.a, .int .i64 x.b, .int .i64 x.c, .int .i64 x.d, .int .i64 x.e, .int .i64 x.f]
theorem key_lits6 (d : Nat) (x : A6) (h : sm6 x) : (Try.prog).keyLits (d + 2) 87 x.val.cells.toList = some (lits6 x) := by
  obtain ⟨⟨a1, a2⟩, ⟨b1, b2⟩, ⟨c1, c2⟩, ⟨d1, d2⟩, ⟨e1, e2⟩, f1, f2⟩ := h
  have w1 := wf_small a1 a2
  have w2 := wf_small b1 b2
  have w3 := wf_small c1 c2
  have w4 := wf_small d1 d2
  have w5 := wf_small e1 e2
  have w6 := wf_small f1 f2
  have ce : (Try.prog).cellsOf 3 = 1 := by kernel_rfl
  have ct : (Try.prog).cellsOf 87 = 6 := by kernel_rfl
  simp [Program.keyLits, Try.underlying87, Try.underlying3, Value.cells, ce, ct, w1, w2, w3, w4, w5, w6, show List.range 6 = [0, 1, 2, 3, 4, 5] from rfl, lits6]
/-- What six numbers read as, as a key. -/
def kl6 (x : A6) : Lit := .string (keyBytes (lits6 x))
theorem mkey6 {x : A6} (h : sm6 x) : keyOf Try.prog 87 x.val = some (kl6 x) := by
  obtain ⟨d, hd⟩ : ∃ d, (Try.prog).types.size + 1 = d + 2 := ⟨(Try.prog).types.size - 1, by have := rowM6; omega⟩
  have ht : (Try.prog).keyType 87 = true := by kernel_rfl
  have ct : (Try.prog).cellsOf 87 = 6 := by kernel_rfl
  have hf : x.val.formed Try.prog 87 = true := by simp [Value.formed, Try.underlying87, ct]
  unfold keyOf
  rw [Try.underlying87]
  simp only [ht, hf, Bool.and_self, if_true, hd, key_lits6 d x h]
  rfl
theorem kl6_key {x : A6} (h : sm6 x) : WideAt.IsKeyLit (kl6 x) := mlaw6.key (mkey6 h)
theorem val6_inj {x y : A6} (e : x.val = y.val) : x = y := by
  obtain ⟨a, b, c, d, e1, f⟩ := x
  obtain ⟨a', b', c', d', e1', f'⟩ := y
  simp at e
  obtain ⟨rfl, rfl, rfl, rfl, rfl, rfl⟩ := e
  rfl
theorem kl6_inj {x y : A6} (hx : sm6 x) (hy : sm6 y) (h : kl6 x = kl6 y) : x = y := by
  have h1 := mkey6 hx
  have h2 := mkey6 hy
  rw [← h] at h2
  exact val6_inj (mlaw6.inj h1 h2)
theorem key6_val {x : A6} {key : Value} (hx : sm6 x) (h : keyOf Try.prog 87 key = some (kl6 x)) : key = x.val := mlaw6.inj h (mkey6 hx)

/-- Block g is a map of at most m entries; its keys are those of a list. -/
def MapG (w : World) (g m : Nat) (S : List A6) : Prop := ∃ D : DataW Unit, w.ownsMap Try.prog 87 (plainElem Try.prog 4) g m D ∧ (∀ x, x ∈ S → sm6 x) ∧ (∀ x : A6, sm6 x → (Maps.has D (kl6 x) = true ↔ x ∈ S)) ∧ (∀ k, Maps.has D k = true → ∃ x, sm6 x ∧ k = kl6 x) ∧ Maps.size D ≤ m
theorem MapG.made (w : World) : MapG (w.alloc (.map #[] 0)) w.heap.size 0 [] := ⟨_, World.ownsMap_made w Try.prog _ _, fun x h => absurd h (by simp), fun x _ => by simp [Maps.has_eq], fun k h => by simp [Maps.has_eq] at h, Nat.le_refl _⟩
theorem MapG.lt {w : World} {g m : Nat} {S : List A6} (h : MapG w g m S) : g < w.heap.size := by obtain ⟨D, h1, _⟩ := h; exact h1.lt
theorem MapG.kept {w w' : World} {g m : Nat} {S : List A6} {row : Option Nat} (h : MapG w g m S) (hg : w.grownBy w' row) (hne : some g ≠ row) : MapG w' g m S := by
  obtain ⟨D, h1, h2⟩ := h
  exact ⟨D, h1.kept hg hne, h2⟩
theorem MapG.below {w w1 : World} {g m : Nat} {S : List A6} (h : MapG w g m S) (hb : Below w.heap.size w w1) : MapG w1 g m S :=
  h.kept (row := none) ⟨hb.os, hb.tape, hb.output, hb.size, fun j hj _ => hb.block j hj⟩ (by simp)
theorem MapG.alloc {w : World} {g m : Nat} {S : List A6} (h : MapG w g m S) (o : Obj) : MapG (w.alloc o) g m S := h.kept (World.grownBy_alloc w o none) (by simp)
theorem MapG.drew {w : World} {g m : Nat} {S : List A6} (h : MapG w g m S) : MapG w.drew g m S := h
theorem MapG.drewN {w : World} {g m : Nat} {S : List A6} (h : MapG w g m S) (n : Nat) : MapG (w.drewN n) g m S := h
theorem MapG.mono {w : World} {g m m' : Nat} {S : List A6} (h : MapG w g m S) (hm : m ≤ m') : MapG w g m' S := by
  obtain ⟨D, h1, h2, h3, h4, h5⟩ := h
  exact ⟨D, h1.mono hm, h2, h3, h4, Nat.le_trans h5 hm⟩
/-- m[x] = true -/
theorem ghost_store {ops : Array Oper} {rest : List Oper} {o : Oper} {a : Act} {Q : Exit → Act → World → Prop} {w : World} (hg : o.guard = none) (m x v : Operand) (hop : o.op = Op.mapUpdate 112 m x v) (g n : Nat) (S : List A6)
    (hm : a.eval m = .map (some g)) (hM : MapG w g n S) (hn : n < maxLen) (c : A6) (hc : sm6 c) (hx : a.eval x = c.val) (hv : a.eval v = .bool true)
    (hK : ∀ w', MapG w' g (n + 1) (S ++ [c]) → w.grownBy w' (some g) → wpList Try.prog ops Q rest (a.put o.dst undef) w') : wpList Try.prog ops Q (o :: rest) a w := by
  obtain ⟨D, h1, h2, h3, h4, h5⟩ := hM
  refine wpList_mapUpdate_own w hg m x v _ hop 87 4 mlaw6 Try.underlying112 _ g n D hm h1 hn _ _ (kl6 c) hx hv (mkey6 hc) (.lit (.bool true)) [] (plainElem_bool Try.underlying4 true) ?_
  intro w' h6 h7
  have ht := h1.tidy mlaw6
  refine hK w' ⟨_, h6, fun y hy => ?_, fun y hy => ?_, fun k hk => ?_, ?_⟩ h7
  · rcases List.mem_append.1 hy with hy | hy
    · exact h2 y hy
    · obtain rfl : y = c := by simpa using hy
      exact hc
  · by_cases e : y = c
    · subst e
      rw [Maps.has_put_same h1.isMap (kl6_key hc)]; simp
    · rw [Maps.has_put_other (fun e2 => e (kl6_inj hy hc e2)), h3 y hy]
      simp [e]
  · by_cases e : k = kl6 c
    · exact ⟨c, hc, e⟩
    · rw [Maps.has_put_other e] at hk
      exact h4 k hk
  · rw [Maps.size_put ht]
    split <;> omega
end Go.Proofs.Ytjmlefcmhjodeaa.others
