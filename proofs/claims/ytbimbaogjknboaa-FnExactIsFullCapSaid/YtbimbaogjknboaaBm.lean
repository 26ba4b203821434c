/- What a hand blocks, and what is free: pairs of cards, as sets. -/
import Derived.Test.YtbimbaogjknboaaPm
namespace Go.Proofs.Ytbimbaogjknboaa.cards
open Go.RowKit
set_option linter.unusedVariables false

/-- Is y the third card of the i-th card and one before it, i below k, or i = k and that one below j? -/
noncomputable def thirds (l : List Cd) (k j : Nat) (y : Cd) : Bool := @decide (∃ (i m : Nat) (a b : Cd), m < i ∧ (i < k ∨ (i = k ∧ m < j)) ∧ l[i]? = some a ∧ l[m]? = some b ∧ third a b = y) (Classical.propDecidable _)
theorem thirds_iff {l : List Cd} {k j : Nat} {y : Cd} : thirds l k j y = true ↔ ∃ (i m : Nat) (a b : Cd), m < i ∧ (i < k ∨ (i = k ∧ m < j)) ∧ l[i]? = some a ∧ l[m]? = some b ∧ third a b = y := by simp [thirds]
theorem thirds_zero (l : List Cd) (y : Cd) : false = thirds l 0 0 y := by
  symm; rw [Bool.eq_false_iff]; intro h
  obtain ⟨i, m, a, b, h1, h2, _⟩ := thirds_iff.1 h
  omega
theorem thirds_step {l : List Cd} {k j : Nat} {a b : Cd} (hj : j < k) (ha : l[k]? = some a) (hb : l[j]? = some b) (y : Cd) : (same y (third a b) || thirds l k j y) = thirds l k (j + 1) y := by
  rw [Bool.eq_iff_iff, Bool.or_eq_true, same_iff, thirds_iff, thirds_iff]
  constructor
  · rintro (rfl | ⟨i, m, x, z, h1, h2, h3⟩)
    · exact ⟨k, j, a, b, hj, .inr ⟨rfl, by omega⟩, ha, hb, rfl⟩
    · exact ⟨i, m, x, z, h1, by omega, h3⟩
  · rintro ⟨i, m, x, z, h1, h2, hx, hz, h3⟩
    by_cases e : i = k ∧ m = j
    · obtain ⟨rfl, rfl⟩ := e
      rw [ha] at hx; rw [hb] at hz
      injection hx with hx; injection hz with hz
      subst hx; subst hz
      exact .inl h3.symm
    · exact .inr ⟨i, m, x, z, h1, by omega, hx, hz, h3⟩
theorem thirds_next (l : List Cd) (k : Nat) (y : Cd) : thirds l k k y = thirds l (k + 1) 0 y := by
  rw [Bool.eq_iff_iff, thirds_iff, thirds_iff]
  constructor
  · rintro ⟨i, m, x, z, h1, h2, h3⟩; exact ⟨i, m, x, z, h1, by omega, h3⟩
  · rintro ⟨i, m, x, z, h1, h2, h3⟩; exact ⟨i, m, x, z, h1, by omega, h3⟩
theorem thirds_all {l : List Cd} {n : Nat} {y : Cd} (hn : l.length = n) (hs : sorted l) (hok : l.all Cd.ok = true) (hy : y.ok = true) : thirds l n 0 y = decide (0 < thr l y n) := by
  rw [Bool.eq_iff_iff, thirds_iff, decide_eq_true_eq, thr_pos hn hs hok hy]
  constructor
  · rintro ⟨i, m, a, b, h1, h2, ha, hb, rfl⟩
    refine ⟨m, i, b, a, h1, hb, ha, ?_⟩
    have hlt := sorted_lt hs h1 hb ha
    have hne : same b a = false := by
      rw [Bool.eq_false_iff]; intro hh; have h5 := same_iff.1 hh; rw [h5] at hlt; omega
    unfold line
    rw [hne, third_comm b a]; simp [same]
  · rintro ⟨i, j, x, z, hij, hx, hz, hl⟩
    have hj := (List.getElem?_eq_some_iff.1 hz).1
    unfold line at hl
    have e := same_iff.1 ((Bool.and_eq_true _ _).mp hl).2
    exact ⟨j, i, z, x, hij, .inl (by omega), hz, hx, by rw [third_comm]; exact e⟩
/-- Blocked, and not struck yet: none of the first k cards. -/
noncomputable def left (l : List Cd) (n k : Nat) (y : Cd) : Bool := thirds l n 0 y && !((l.take k).any fun x => same y x)
theorem left_zero (l : List Cd) (n : Nat) (y : Cd) : thirds l n 0 y = left l n 0 y := by simp [left]
theorem left_step {l : List Cd} {n k : Nat} {x : Cd} (hx : l[k]? = some x) (y : Cd) : (!same y x && left l n k y) = left l n (k + 1) y := by
  unfold left
  rw [take_snoc hx, List.any_append, show [x].any (fun z => same y z) = same y x by simp]
  cases thirds l n 0 y <;> cases same y x <;> cases (l.take k).any (fun x => same y x) <;> rfl
/-- Is the card blocked by a hand? -/
noncomputable def blk (l : List Cd) (y : Cd) : Bool := !there l y && decide (0 < thr l y l.length)
noncomputable def fre (l : List Cd) (y : Cd) : Bool := !there l y && !decide (0 < thr l y l.length)
theorem left_all {l : List Cd} {n : Nat} {y : Cd} (hn : l.length = n) (hs : sorted l) (hok : l.all Cd.ok = true) (hy : y.ok = true) : left l n n y = blk l y := by
  unfold left blk
  rw [thirds_all hn hs hok hy, hn, Bool.and_comm]
  congr 2
  rw [← hn, List.take_length, Bool.eq_iff_iff, there_mem hs hok hy, List.any_eq_true]
  constructor
  · rintro ⟨x, h1, h2⟩; rw [same_iff.1 h2]; exact h1
  · intro h; exact ⟨y, h, same_iff.2 rfl⟩
theorem fre_blk (l : List Cd) (y : Cd) : (!there l y && !blk l y) = fre l y := by
  unfold blk fre
  cases there l y <;> simp
end Go.Proofs.Ytbimbaogjknboaa.cards
