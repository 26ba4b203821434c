/- What the law of cards asks of cards, as facts on their numbers. -/
import Derived.Test.YtkmkochganknmaaC7
namespace Go.Proofs.Ytkmkochganknmaa.cards
open Go.RowKit
set_option linter.unusedVariables false

theorem f_kind (x y z : Cd) : (kindR x y z).2 = ((lineR x y z).2 && (lineR x y z).1) := by
  unfold kindR lineR
  cases x.ok <;> cases y.ok <;> cases z.ok <;> cases line x y z <;> rfl
theorem f_dif (x y : Cd) : (difR x y).2 = (x.ok && y.ok) := by
  unfold difR
  cases x.ok <;> cases y.ok <;> rfl
theorem f_third (x y : Cd) : (thirdR x y).2 = ((difR x y).2 && decide (0 < (difR x y).1)) := by
  unfold thirdR difR
  cases x.ok <;> cases y.ok <;> simp
  unfold same dif one
  by_cases h1 : x.a = y.a <;> by_cases h2 : x.b = y.b <;> by_cases h3 : x.c = y.c <;> by_cases h4 : x.d = y.d <;> simp [h1, h2, h3, h4]
theorem f_num (x : Cd) : (numR x).2 = x.ok := by unfold numR; cases x.ok <;> rfl
theorem f_back {x : Cd} (h : (numR x).2 = true) : atR (numR x).1 = (x, true) := by
  rw [f_num] at h
  obtain ⟨h1, h2, h3, h4⟩ := Cd.bd h
  have e : cdAt (num x) = x := by
    obtain ⟨a, b, c, d⟩ := x
    simp only [cdAt, num, Cd.mk.injEq] at *
    omega
  have q : 0 ≤ num x ∧ num x ≤ 80 := by unfold num; omega
  simp [numR, atR, h, e, q.1, q.2]
theorem f_kd {x y z : Cd} (h : (kindR x y z).2 = true) : difR y z = ((kindR x y z).1, true) := by
  unfold kindR at h ⊢
  by_cases hx : (x.ok && y.ok && z.ok && line x y z) = true
  · simp only [hx, if_true] at h ⊢
    simp only [Bool.and_eq_true] at hx
    obtain ⟨⟨⟨h1, h2⟩, h3⟩, h4⟩ := hx
    have a1 := Cd.bd h1; have a2 := Cd.bd h2; have a3 := Cd.bd h3
    simp only [difR, h2, h3, Bool.and_self, if_true, Prod.mk.injEq, and_true]
    have h5 : same (third x y) z = true := by
      simp only [line, Bool.and_eq_true] at h4
      exact h4.2
    unfold same third at h5
    obtain ⟨e1, e2, e3, e4⟩ := of_decide_eq_true h5
    simp only at e1 e2 e3 e4
    simp only [dif, one, decide_eq_true_eq]
    have r1 : (y.a ≠ z.a) ↔ (x.a ≠ y.a) := by omega
    have r2 : (y.b ≠ z.b) ↔ (x.b ≠ y.b) := by omega
    have r3 : (y.c ≠ z.c) ↔ (x.c ≠ y.c) := by omega
    have r4 : (y.d ≠ z.d) ↔ (x.d ≠ y.d) := by omega
    simp only [r1, r2, r3, r4]
  · rw [if_neg hx] at h
    cases h
def zeroB (x y z : Cd) : Bool := decide ((x.a + y.a + z.a) % 3 = 0) && decide ((x.b + y.b + z.b) % 3 = 0) && decide ((x.c + y.c + z.c) % 3 = 0) && decide ((x.d + y.d + z.d) % 3 = 0)
theorem f_zero {x y z : Cd} (h : (lineR x y z).2 = true) (hs : same x y = false) : zeroB x y z = (lineR x y z).1 := by
  unfold lineR at h ⊢
  by_cases hx : (x.ok && y.ok && z.ok) = true
  · simp only [hx, if_true] at h ⊢
    simp only [Bool.and_eq_true] at hx
    obtain ⟨⟨h1, h2⟩, h3⟩ := hx
    have a1 := Cd.bd h1; have a2 := Cd.bd h2; have a3 := Cd.bd h3
    have e : line x y z = same (third x y) z := by simp [line, hs]
    rw [e]
    simp only [same, third, zeroB]
    have r1 : ((x.a + y.a + z.a) % 3 = 0) ↔ ((6 - x.a - y.a) % 3 = z.a) := by omega
    have r2 : ((x.b + y.b + z.b) % 3 = 0) ↔ ((6 - x.b - y.b) % 3 = z.b) := by omega
    have r3 : ((x.c + y.c + z.c) % 3 = 0) ↔ ((6 - x.c - y.c) % 3 = z.c) := by omega
    have r4 : ((x.d + y.d + z.d) % 3 = 0) ↔ ((6 - x.d - y.d) % 3 = z.d) := by omega
    rw [Bool.eq_iff_iff]
    simp only [Bool.and_eq_true, decide_eq_true_iff, r1, r2, r3, r4, and_assoc]
    exact ⟨fun h => decide_eq_true h, fun h => of_decide_eq_true h⟩
  · rw [if_neg hx] at h
    cases h
theorem f_end {x y : Cd} (h : (thirdR x y).2 = true) : thirdR y x = ((thirdR x y).1, true) ∧ thirdR x (thirdR x y).1 = (y, true) ∧ lineR (thirdR x y).1 y x = (true, true) ∧ same (thirdR x y).1 x = false ∧ same (thirdR x y).1 y = false := by
  unfold thirdR at h
  by_cases hx : (x.ok && y.ok && !same x y) = true
  · have e : thirdR x y = (third x y, true) := by unfold thirdR; rw [if_pos hx]
    rw [e]
    simp only [Bool.and_eq_true, Bool.not_eq_true'] at hx
    obtain ⟨⟨h1, h2⟩, h3⟩ := hx
    have a1 := Cd.bd h1; have a2 := Cd.bd h2
    have ht := third_ok x y
    simp only [same, decide_eq_false_iff_not] at h3
    have c1 : ((6 - x.a - y.a) % 3 = x.a) ↔ x.a = y.a := by omega
    have c2 : ((6 - x.b - y.b) % 3 = x.b) ↔ x.b = y.b := by omega
    have c3 : ((6 - x.c - y.c) % 3 = x.c) ↔ x.c = y.c := by omega
    have c4 : ((6 - x.d - y.d) % 3 = x.d) ↔ x.d = y.d := by omega
    have d1 : ((6 - x.a - y.a) % 3 = y.a) ↔ x.a = y.a := by omega
    have d2 : ((6 - x.b - y.b) % 3 = y.b) ↔ x.b = y.b := by omega
    have d3 : ((6 - x.c - y.c) % 3 = y.c) ↔ x.c = y.c := by omega
    have d4 : ((6 - x.d - y.d) % 3 = y.d) ↔ x.d = y.d := by omega
    have s1 : same y x = false := by simp only [same, decide_eq_false_iff_not]; exact fun ⟨e1, e2, e3, e4⟩ => h3 ⟨e1.symm, e2.symm, e3.symm, e4.symm⟩
    have s3 : same (third x y) x = false := by simp only [same, third, decide_eq_false_iff_not, c1, c2, c3, c4]; exact h3
    have s4 : same (third x y) y = false := by simp only [same, third, decide_eq_false_iff_not, d1, d2, d3, d4]; exact h3
    have s2 : same x (third x y) = false := by
      simp only [same, decide_eq_false_iff_not] at s3 ⊢
      exact fun ⟨e1, e2, e3, e4⟩ => s3 ⟨e1.symm, e2.symm, e3.symm, e4.symm⟩
    have t1 : third y x = third x y := by simp only [third, Cd.mk.injEq]; omega
    have t2 : third x (third x y) = y := by
      have q1 : (6 - x.a - (6 - x.a - y.a) % 3) % 3 = y.a := by omega
      have q2 : (6 - x.b - (6 - x.b - y.b) % 3) % 3 = y.b := by omega
      have q3 : (6 - x.c - (6 - x.c - y.c) % 3) % 3 = y.c := by omega
      have q4 : (6 - x.d - (6 - x.d - y.d) % 3) % 3 = y.d := by omega
      show (⟨_, _, _, _⟩ : Cd) = y
      simp only [third, q1, q2, q3, q4]
    have t3 : line (third x y) y x = true := by
      have e : line (third x y) y x = same (third (third x y) y) x := by simp [line, s4]
      rw [e]
      unfold same third
      exact decide_eq_true (by simp only; exact ⟨by omega, by omega, by omega, by omega⟩)
    refine ⟨by simp [thirdR, h1, h2, s1, t1], by simp [thirdR, h1, ht, s2, t2], by simp [lineR, h1, h2, ht, t3], s3, s4⟩
  · rw [if_neg hx] at h
    cases h
end Go.Proofs.Ytkmkochganknmaa.cards
