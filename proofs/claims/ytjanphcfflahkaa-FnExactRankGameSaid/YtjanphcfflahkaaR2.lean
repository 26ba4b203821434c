/- Slices of arrays of 2 numbers that a call makes: appends, comparisons, marks, and marks looked for again. -/
import Derived.Test.YtjanphcfflahkaaIs
namespace Go.Proofs.Ytjanphcfflahkaa.cards
open Go.RowKit
set_option linter.unusedVariables false

/-- An array of 2 numbers. -/
structure A2 where
  a : Int
  b : Int
def A2.cells (x : A2) : List Value := [.int .i64 x.a, .int .i64 x.b]
abbrev A2.val (x : A2) : Value := .agg #[.int .i64 x.a, .int .i64 x.b]
abbrev A2.obj (x : A2) : Obj := .cells #[.int .i64 x.a, .int .i64 x.b] 31
def A2.flat (l : List A2) : List Value := l.flatMap A2.cells
theorem A2.flat_len (l : List A2) : (A2.flat l).length = 2 * l.length := by
  induction l with
  | nil => rfl
  | cons x r ih => simp [A2.flat, List.flatMap_cons, A2.cells] at ih ⊢; omega
theorem A2.flat_at : ∀ (l : List A2) (k : Nat) (x : A2), l[k]? = some x → (A2.flat l)[2 * k]? = some (.int .i64 x.a) ∧ (A2.flat l)[2 * k + 1]? = some (.int .i64 x.b)
  | [], k, x, h => by simp at h
  | y :: r, 0, x, h => by
    obtain rfl : y = x := by simpa using h
    exact ⟨rfl, rfl⟩
  | y :: r, k + 1, x, h => by
    obtain ⟨h0, h1⟩ := A2.flat_at r k x (by simpa using h)
    have e : ∀ j, (A2.flat (y :: r))[2 * (k + 1) + j]? = (A2.flat r)[2 * k + j]? := fun j => by
      show (Value.int .i64 y.a :: .int .i64 y.b :: A2.flat r)[2 * (k + 1) + j]? = _
      rw [show 2 * (k + 1) + j = (2 * k + j) + 1 + 1 by omega]
      simp
    exact ⟨(e 0).trans h0, (e 1).trans h1⟩
theorem Rd.aA2 {w : World} {p : Option Addr} {l : List A2} (h : Rd w p (A2.flat l)) {k : Nat} (hk : k < l.length) : ∃ b o x, p = some ⟨b, o, none⟩ ∧ b < w.heap.size ∧ l[k]? = some x ∧ w.cell? ⟨b, o + k * 2, none⟩ = some (.int .i64 x.a) ∧ w.cell? ⟨b, o + k * 2 + 1, none⟩ = some (.int .i64 x.b) := by
  obtain ⟨b, o, e, hlt, hc⟩ := h (by rw [A2.flat_len]; omega)
  have hx := List.getElem?_eq_getElem hk
  obtain ⟨h0, h1⟩ := A2.flat_at l k _ hx
  refine ⟨b, o, _, e, hlt, hx, ?_, ?_⟩
  · rw [Nat.mul_comm]; exact hc _ _ h0
  · rw [Nat.mul_comm]; exact hc _ _ h1
/-- The call owns a slice of the arrays of a list, made from block B on. -/
def OwnA2 (w : World) (B : Nat) (v : Value) (l : List A2) : Prop := w.ownsRow B 31 2 v l.length (A2.flat l)
theorem OwnA2.form {w : World} {B : Nat} {v : Value} {l : List A2} (h : OwnA2 w B v l) : ∃ p c, v = .slice p l.length c ∧ l.length ≤ c ∧ Rd w p (A2.flat l) ∧
    (0 < l.length → ∃ g, p = some ⟨g, 0, none⟩ ∧ B ≤ g ∧ g < w.heap.size ∧ ∀ k, w.frozen? ⟨g, k, none⟩ = false) := by
  have h' := h
  obtain ⟨_, ⟨rfl, h0⟩ | ⟨g, cap, cur, rfl, hB, hg, hnc, _⟩⟩ := h
  · exact ⟨none, 0, by rw [h0], by omega, fun hp => by rw [A2.flat_len] at hp; omega, fun hp => by omega⟩
  · have hlt : g < w.heap.size := (Array.getElem?_eq_some_iff.1 hg).1
    refine ⟨_, cap, rfl, hnc, fun hp => ⟨g, 0, rfl, hlt, fun j x hx => ?_⟩, fun hp => ⟨g, rfl, hB, hlt, fun k => World.ownsRow.frozenAt h' k⟩⟩
    have hj : j < (A2.flat l).length := (List.getElem?_eq_some_iff.1 hx).1
    rw [A2.flat_len] at hj
    rw [Nat.zero_add, World.ownsRow.cellAt h' j (by omega)]
    exact hx
theorem OwnA2.below {w w1 : World} {B : Nat} {v : Value} {l : List A2} (h : OwnA2 w B v l) (hb : Below w.heap.size w w1) : OwnA2 w1 B v l :=
  World.ownsRow.kept (row := none) h ⟨hb.os, hb.tape, hb.output, hb.size, fun j hj _ => hb.block j hj⟩ (by cases hv : v.ownBlock <;> simp)
theorem OwnA2.alloc {w : World} {B : Nat} {v : Value} {l : List A2} (h : OwnA2 w B v l) (o : Obj) : OwnA2 (w.alloc o) B v l := h.below ((Below.refl _ _).alloc (Nat.le_refl _) o)
theorem OwnA2.drew {w : World} {B : Nat} {v : Value} {l : List A2} (h : OwnA2 w B v l) : OwnA2 w.drew B v l := h
theorem OwnA2.drewN {w : World} {B : Nat} {v : Value} {l : List A2} (h : OwnA2 w B v l) (k : Nat) : OwnA2 (w.drewN k) B v l := h
theorem OwnA2.stay {w w1 : World} {B a b a' b' : Nat} {v : Value} {l : List A2} {row : Option Nat} (h : OwnA2 w B v l) (hg : w.grownBy w1 row) (h1 : ∀ g, v.ownBlock = some g → a ≤ g ∧ g < b) (h2 : ∀ g, row = some g → a' ≤ g ∧ g < b') (hd : b ≤ a' ∨ b' ≤ a) : OwnA2 w1 B v l :=
  World.ownsRow.kept h hg (by
    cases hv : v.ownBlock with
    | none => exact .inl rfl
    | some g => exact .inr (fun e => by have := h1 g hv; have := h2 g e.symm; omega))
theorem OwnA2.base {w : World} {B B' : Nat} {v : Value} {l : List A2} (h : OwnA2 w B v l) (hB : B' ≤ B) : OwnA2 w B' v l := by
  obtain ⟨hl, h0 | ⟨g, cap, cur, e, hb, r⟩⟩ := h
  · exact ⟨hl, .inl h0⟩
  · exact ⟨hl, .inr ⟨g, cap, cur, e, Nat.le_trans hB hb, r⟩⟩
theorem OwnA2.rd {w : World} {B n c : Nat} {p : Option Addr} {l : List A2} (h : OwnA2 w B (.slice p n c) l) : Rd w p (A2.flat l) := by
  obtain ⟨p', c', e, _, hr, _⟩ := h.form
  injection e with e1 e2 e3
  rw [e1]; exact hr
theorem OwnA2.span {w : World} {B : Nat} {v : Value} {l : List A2} (h : OwnA2 w B v l) : ∀ g, v.ownBlock = some g → B ≤ g ∧ g < w.heap.size := World.ownsRow.lt h
theorem OwnA2.empty (w : World) (B : Nat) (hB : B ≤ w.heap.size) : OwnA2 (w.alloc (.cells #[] 31)) B (.slice (some ⟨w.heap.size, 0, none⟩) 0 0) [] :=
  ⟨rfl, .inr ⟨w.heap.size, 0, #[], rfl, hB, heap_alloc_new w _, Nat.le_refl _, by simp [maxLen], rfl, rfl⟩⟩
theorem A2.flat_set : ∀ (l : List A2) (i : Nat) (x : A2), i < l.length → ((A2.flat l).set (i * 2) (.int .i64 x.a)).set (i * 2 + 1) (.int .i64 x.b) = A2.flat (l.set i x)
  | [], i, x, h => by simp at h
  | y :: r, 0, x, h => rfl
  | y :: r, i + 1, x, h => by
    have ih := A2.flat_set r i x (by simpa using h)
    have e : ∀ (zs : List Value) (j : Nat) (v : Value), (Value.int .i64 y.a :: .int .i64 y.b :: zs).set ((i + 1) * 2 + j) v = Value.int .i64 y.a :: .int .i64 y.b :: zs.set (i * 2 + j) v := fun zs j v => by
      rw [show (i + 1) * 2 + j = (i * 2 + j) + 1 + 1 by omega]; rfl
    have e0 := fun zs v => e zs 0 v
    simp only [Nat.add_zero] at e0
    show ((Value.int .i64 y.a :: .int .i64 y.b :: A2.flat r).set ((i + 1) * 2) _).set _ _ = Value.int .i64 y.a :: .int .i64 y.b :: A2.flat (r.set i x)
    rw [e0, e, ih]
theorem OwnA2.store {w : World} {B g n c : Nat} {l : List A2} (hn : l.length = n) (h : OwnA2 w B (.slice (some ⟨g, 0, none⟩) n c) l) (i : Nat) (hi : i < n) (x : A2) :
    OwnA2 ((w.setCell ⟨g, i * 2, none⟩ (.int .i64 x.a)).setCell ⟨g, i * 2 + 1, none⟩ (.int .i64 x.b)) B (.slice (some ⟨g, 0, none⟩) n c) (l.set i x) := by
  subst hn
  unfold OwnA2 at h ⊢
  have h1 := (World.ownsRow.stored (World.ownsRow.stored h (i * 2) (.int .i64 x.a)).1 (i * 2 + 1) (.int .i64 x.b)).1
  rw [A2.flat_set l i x hi] at h1
  rw [List.length_set]
  exact h1
theorem OwnA2.slots {w : World} {B g n c : Nat} {l : List A2} (hn : l.length = n) (h : OwnA2 w B (.slice (some ⟨g, 0, none⟩) n c) l) (i : Nat) (hi : i < n) :
    ∃ y : A2, l[i]? = some y ∧ w.cell? ⟨g, i * 2, none⟩ = some (.int .i64 y.a) ∧ w.cell? ⟨g, i * 2 + 1, none⟩ = some (.int .i64 y.b) ∧ (∀ k, w.frozen? ⟨g, k, none⟩ = false) ∧ B ≤ g ∧ g < w.heap.size := by
  subst hn
  obtain ⟨p, c', e, _, hr, hg⟩ := h.form
  obtain ⟨g', eg, hB, hlt, hf⟩ := hg (by omega)
  obtain ⟨b, o, y, ep, hb, hy, d0, d1⟩ := hr.aA2 hi
  injection e with e1 e2 e3
  rw [← e1] at eg ep
  injection eg with eg
  injection eg with eg
  subst eg
  injection ep with ep
  injection ep with eb eo
  subst eb; subst eo
  simp only [Nat.zero_add] at d0 d1
  exact ⟨y, hy, d0, d1, hf, hB, hlt⟩
theorem A2.info : ((Try.prog).info? 31).map (fun i => (i.zero, i.size, i.bytes)) = some (some (.agg #[.int .i64 0, .int .i64 0]), 2, 16) := by kernel_rfl
end Go.Proofs.Ytjanphcfflahkaa.cards
