/- Slices of arrays of 2 numbers that a call makes: appends, comparisons, marks, and marks looked for again. -/
import Derived.Test.YtnibkipepmakgaaIs
namespace Go.Proofs.Ytnibkipepmakgaa.cards
open Go.RowKit
set_option linter.unusedVariables false

/-- An array of 2 numbers. -/
structure A2 where
  a : Int
  b : Int
def A2.cells (x : A2) : List Value := [.int .i64 x.a, .int .i64 x.b]
abbrev A2.val (x : A2) : Value := .agg #[.int .i64 x.a, .int .i64 x.b]
def A2.flat (l : List A2) : List Value := l.flatMap A2.cells
theorem A2.flat_len (l : List A2) : (A2.flat l).length = 2 * l.length := by
  induction l with
  | nil => rfl
  | cons x r ih => simp [A2.flat, List.flatMap_cons, A2.cells] at ih ⊢; omega
theorem A2.flat_at : ∀ (l : List A2) (k : Nat) (x : A2), l[k]? = some x → (A2.flat l)[2 * k]? = some (.int .i64 x.a) ∧ (A2.flat l)[2 * k + 1]? = some (.int .i64 x.b)
  | [], k, x, h => by simp at h
  | y :: r, 0, x, h => by
    obtain rfl : y = x := by simpa using h
    exact ⟨rfl, rfl⟩
  | y :: r, k + 1, x, h => by
    obtain ⟨h0, h1⟩ := A2.flat_at r k x (by simpa using h)
    have e : ∀ j, (A2.flat (y :: r))[2 * (k + 1) + j]? = (A2.flat r)[2 * k + j]? := fun j => by
      show (Value.int .i64 y.a :: .int .i64 y.b :: A2.flat r)[2 * (k + 1) + j]? = _
      rw [show 2 * (k + 1) + j = (2 * k + j) + 1 + 1 by omega]
      simp
    exact ⟨(e 0).trans h0, (e 1).trans h1⟩
theorem Rd.aA2 {w : World} {p : Option Addr} {l : List A2} (h : Rd w p (A2.flat l)) {k : Nat} (hk : k < l.length) : ∃ b o x, p = some ⟨b, o, none⟩ ∧ b < w.heap.size ∧ l[k]? = some x ∧ w.cell? ⟨b, o + k * 2, none⟩ = some (.int .i64 x.a) ∧ w.cell? ⟨b, o + k * 2 + 1, none⟩ = some (.int .i64 x.b) := by
  obtain ⟨b, o, e, hlt, hc⟩ := h (by rw [A2.flat_len]; omega)
  have hx := List.getElem?_eq_getElem hk
  obtain ⟨h0, h1⟩ := A2.flat_at l k _ hx
  refine ⟨b, o, _, e, hlt, hx, ?_, ?_⟩
  · rw [Nat.mul_comm]; exact hc _ _ h0
  · rw [Nat.mul_comm]; exact hc _ _ h1
theorem A2.flat_set : ∀ (l : List A2) (i : Nat) (x : A2), i < l.length → ((A2.flat l).set (i * 2) (.int .i64 x.a)).set (i * 2 + 1) (.int .i64 x.b) = A2.flat (l.set i x)
  | [], i, x, h => by simp at h
  | y :: r, 0, x, h => rfl
  | y :: r, i + 1, x, h => by
    have ih := A2.flat_set r i x (by simpa using h)
    have e : ∀ (zs : List Value) (j : Nat) (v : Value), (Value.int .i64 y.a :: .int .i64 y.b :: zs).set ((i + 1) * 2 + j) v = Value.int .i64 y.a :: .int .i64 y.b :: zs.set (i * 2 + j) v := fun zs j v => by
      rw [show (i + 1) * 2 + j = (i * 2 + j) + 1 + 1 by omega]; rfl
    have e0 := fun zs v => e zs 0 v
    simp only [Nat.add_zero] at e0
    show ((Value.int .i64 y.a :: .int .i64 y.b :: A2.flat r).set ((i + 1) * 2) _).set _ _ = Value.int .i64 y.a :: .int .i64 y.b :: A2.flat (r.set i x)
    rw [e0, e, ih]
end Go.Proofs.Ytnibkipepmakgaa.cards
