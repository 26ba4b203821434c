/- Slices of numbers that a call makes: appends, comparisons, marks, and marks looked for again. -/
import Derived.Test.YtnibkipepmakgaaRx
import Derived.OwnWalk
namespace Go.Proofs.Ytnibkipepmakgaa.cards
open Go.RowKit
set_option linter.unusedVariables false

def ints (l : List Int) : List Value := l.map (Value.int .i64)
theorem ints_len (l : List Int) : (ints l).length = l.length := by simp [ints]
/-- The call owns a slice of the numbers of a list, made from block B on. -/
def OwnI (w : World) (B : Nat) (v : Value) (l : List Int) : Prop := w.ownsRow B 3 1 v l.length (ints l)
theorem OwnI.form {w : World} {B : Nat} {v : Value} {l : List Int} (h : OwnI w B v l) : ∃ p c, v = .slice p l.length c ∧ l.length ≤ c ∧ Rd w p (ints l) ∧
    (0 < l.length → ∃ g, p = some ⟨g, 0, none⟩ ∧ B ≤ g ∧ g < w.heap.size ∧ ∀ k, w.frozen? ⟨g, k, none⟩ = false) := by
  have h' := h
  obtain ⟨_, ⟨rfl, h0⟩ | ⟨g, cap, cur, rfl, hB, hg, hnc, _⟩⟩ := h
  · exact ⟨none, 0, by rw [h0], by omega, fun hp => by rw [ints_len] at hp; omega, fun hp => by omega⟩
  · have hlt : g < w.heap.size := (Array.getElem?_eq_some_iff.1 hg).1
    refine ⟨_, cap, rfl, hnc, fun hp => ⟨g, 0, rfl, hlt, fun j x hx => ?_⟩, fun hp => ⟨g, rfl, hB, hlt, fun k => World.ownsRow.frozenAt h' k⟩⟩
    have hj : j < (ints l).length := (List.getElem?_eq_some_iff.1 hx).1
    rw [ints_len] at hj
    rw [Nat.zero_add, World.ownsRow.cellAt h' j (by omega)]
    exact hx
theorem OwnI.below {w w1 : World} {B : Nat} {v : Value} {l : List Int} (h : OwnI w B v l) (hb : Below w.heap.size w w1) : OwnI w1 B v l :=
  World.ownsRow.kept (row := none) h ⟨hb.os, hb.tape, hb.output, hb.size, fun j hj _ => hb.block j hj⟩ (by cases hv : v.ownBlock <;> simp)
theorem OwnI.alloc {w : World} {B : Nat} {v : Value} {l : List Int} (h : OwnI w B v l) (o : Obj) : OwnI (w.alloc o) B v l := h.below ((Below.refl _ _).alloc (Nat.le_refl _) o)
theorem OwnI.drew {w : World} {B : Nat} {v : Value} {l : List Int} (h : OwnI w B v l) : OwnI w.drew B v l := h
theorem OwnI.drewN {w : World} {B : Nat} {v : Value} {l : List Int} (h : OwnI w B v l) (k : Nat) : OwnI (w.drewN k) B v l := h
theorem OwnI.under {w w1 : World} {B C : Nat} {v : Value} {l : List Int} (h : OwnI w B v l) (hv : ∀ g, v.ownBlock = some g → g < C) (hb : Below C w w1) : OwnI w1 B v l := by
  obtain ⟨hl, ⟨rfl, h0⟩ | ⟨g, cap, cur, rfl, hB, hg, r⟩⟩ := h
  · exact ⟨hl, .inl ⟨rfl, h0⟩⟩
  · exact ⟨hl, .inr ⟨g, cap, cur, rfl, hB, (hb.block g (hv g rfl)).trans hg, r⟩⟩
theorem OwnI.lt {w : World} {B : Nat} {v : Value} {l : List Int} (h : OwnI w B v l) : ∀ g, v.ownBlock = some g → g < w.heap.size := fun g e => (World.ownsRow.lt h g e).2
theorem OwnI.none_ (w : World) (B : Nat) : OwnI w B (.slice none 0 0) [] := ⟨rfl, .inl ⟨rfl, rfl⟩⟩
/-- The number at a place. -/
theorem Rd.int {w : World} {p : Option Addr} {l : List Int} (h : Rd w p (ints l)) {k : Nat} (hk : k < l.length) : ∃ b o x, p = some ⟨b, o, none⟩ ∧ b < w.heap.size ∧ l[k]? = some x ∧ w.cell? ⟨b, o + k, none⟩ = some (.int .i64 x) := by
  obtain ⟨b, o, e, hlt, hc⟩ := h (by rw [ints_len]; omega)
  exact ⟨b, o, l[k], e, hlt, List.getElem?_eq_getElem hk, hc k _ (by simp [ints, hk])⟩
theorem OwnI.slot {w : World} {B g n c : Nat} {l : List Int} (hn : l.length = n) (h : OwnI w B (.slice (some ⟨g, 0, none⟩) n c) l) (i : Nat) (hi : i < n) :
    ∃ y : Int, l[i]? = some y ∧ w.cell? ⟨g, i, none⟩ = some (.int .i64 y) ∧ (∀ k, w.frozen? ⟨g, k, none⟩ = false) ∧ B ≤ g ∧ g < w.heap.size := by
  subst hn
  obtain ⟨p, c', e, _, hr, hg⟩ := h.form
  obtain ⟨g', eg, hB, hlt, hf⟩ := hg (by omega)
  obtain ⟨b, o, y, ep, hb, hy, d0⟩ := hr.int hi
  injection e with e1 e2 e3
  rw [← e1] at eg ep
  injection eg with eg
  injection eg with eg
  subst eg
  injection ep with ep
  injection ep with eb eo
  subst eb; subst eo
  rw [Nat.zero_add] at d0
  exact ⟨y, hy, d0, hf, hB, hlt⟩
theorem OwnI.store {w : World} {B g n c : Nat} {l : List Int} (hn : l.length = n) (h : OwnI w B (.slice (some ⟨g, 0, none⟩) n c) l) (i : Nat) (x : Int) :
    OwnI (w.setCell ⟨g, i, none⟩ (.int .i64 x)) B (.slice (some ⟨g, 0, none⟩) n c) (l.set i x) := by
  subst hn
  unfold OwnI at h ⊢
  have h1 := (World.ownsRow.stored h i (.int .i64 x)).1
  rw [List.length_set]
  have e : (ints l).set i (.int .i64 x) = ints (l.set i x) := by simp [ints, List.map_set]
  rw [← e]; exact h1
theorem int_info : ((Try.prog).info? 3).map (fun i => (i.zero, i.size, i.bytes)) = some (some (.int .i64 0), 1, 8) := by kernel_rfl
/-- One number is appended. -/
theorem append_int {ops : Array Oper} {rest : List Oper} {o : Oper} {a : Act} {Q : Exit → Act → World → Prop} (hgd : o.guard = none) (s x : Operand)
    (ho : o.op = .call { callee := .builtin .append, args := #[s, x], argTypes := #[30, 30] }) (B : Nat) (v : Value) (l : List Int) (q : Int) (W : World) (g : Nat) (hg : W.heap.size = g)
    (hs : a.eval s = v) (hx : a.eval x = .slice (some ⟨g, 0, none⟩) 1 1) (hO : OwnI W B v l) (hl : l.length ≤ 1000000000) (hB : B ≤ W.heap.size)
    (h : ∀ v' w', OwnI w' B v' (l ++ [q]) → Below B W w' → wpList Try.prog ops Q rest (a.put o.dst v') w') : wpList Try.prog ops Q (o :: rest) a (W.alloc (.cells #[.int .i64 q] 3)) := by
  subst hg
  obtain ⟨i, hi, hz, hsz, hb⟩ := info_parts int_info
  refine wpList_append_own (P := Try.prog) (W.alloc (.cells #[.int .i64 q] 3)) hgd s x 30 ho B 3 i (.int .i64 0) 1 8 Try.underlying30 hi hz hsz hb rfl (by decide) v l.length (ints l) hs (hO.alloc _) ⟨W.heap.size, 0, none⟩ 1 1 [.int .i64 q] hx rfl ?_ ?_ ?_ ?_ ?_ ?_
  · intro j u hu
    have hj : j = 0 := by have := (List.getElem?_eq_some_iff.1 hu).1; simp at this; omega
    subst hj
    rw [show u = .int .i64 q by simpa using hu.symm]
    exact (cell_of_row _ _ 0 _ _ _ (heap_alloc_new W _)).trans rfl
  · intro u hu; simp at hu; subst hu; rfl
  · simp only [maxLen]; omega
  · omega
  · have : (W.alloc (.cells #[.int .i64 q] 3)).heap.size = W.heap.size + 1 := by simp
    omega
  · intro v' w' h1 h2 _
    refine h v' w' ?_ (((Below.refl _ _).alloc hB _).grown h2 (by simp; omega) (fun k hk => (World.ownsRow.lt hO k hk).1))
    unfold OwnI
    rw [List.length_append]
    have e : ints (l ++ [q]) = ints l ++ [.int .i64 q] := by simp [ints]
    rw [e]; exact h1
theorem OwnI.stay {w w1 : World} {B a b a' b' : Nat} {v : Value} {l : List Int} {row : Option Nat} (h : OwnI w B v l) (hg : w.grownBy w1 row) (h1 : ∀ g, v.ownBlock = some g → a ≤ g ∧ g < b) (h2 : ∀ g, row = some g → a' ≤ g ∧ g < b') (hd : b ≤ a' ∨ b' ≤ a) : OwnI w1 B v l :=
  World.ownsRow.kept h hg (by
    cases hv : v.ownBlock with
    | none => exact .inl rfl
    | some g => exact .inr (fun e => by have := h1 g hv; have := h2 g e.symm; omega))
theorem OwnI.rd {w : World} {B n c : Nat} {p : Option Addr} {l : List Int} (h : OwnI w B (.slice p n c) l) : Rd w p (ints l) := by
  obtain ⟨p', c', e, _, hr, _⟩ := h.form
  injection e with e1 e2 e3
  rw [e1]; exact hr
theorem OwnI.span {w : World} {B : Nat} {v : Value} {l : List Int} (h : OwnI w B v l) : ∀ g, v.ownBlock = some g → B ≤ g ∧ g < w.heap.size := World.ownsRow.lt h
theorem OwnI.empty (w : World) (B : Nat) (hB : B ≤ w.heap.size) : OwnI (w.alloc (.cells #[] 3)) B (.slice (some ⟨w.heap.size, 0, none⟩) 0 0) [] :=
  ⟨rfl, .inr ⟨w.heap.size, 0, #[], rfl, hB, heap_alloc_new w _, Nat.le_refl _, by simp [maxLen], rfl, rfl⟩⟩
end Go.Proofs.Ytnibkipepmakgaa.cards
