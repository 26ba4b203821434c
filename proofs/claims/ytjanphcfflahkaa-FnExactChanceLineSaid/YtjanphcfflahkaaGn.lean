/- Counting: what choices and fractions of draws want. -/
import Derived.Test.YtjanphcfflahkaaGb
import Derived.Test.YtjanphcfflahkaaTh
namespace Go.Proofs.Ytjanphcfflahkaa.chance
open Go.RowKit
open cards reg
set_option linter.unusedVariables false

theorem ok_sub {ps l : List Cd} (h : l.all Cd.ok = true) (hs : ps.Sublist l) : ps.all Cd.ok = true := List.all_eq_true.2 fun x hx => List.all_eq_true.1 h x (hs.subset hx)
instance decCd : DecidableEq Cd := fun x y => if h : same x y = true then .isTrue (same_iff.1 h) else .isFalse (fun e => h (same_iff.2 e))
theorem tot_one (f : List Cd → Nat) (p : Cd → Bool) (b : List Cd) : ∀ (r : List Cd), (∀ z ∈ r, f (b ++ [z]) = nat (p z)) → tot f 1 r b = (r.filter p).length
  | [], _ => rfl
  | x :: r, h => by
    rw [tot, tot_zero, h x (by simp), tot_one f p b r (fun z hz => h z (by simp [hz])), List.filter_cons]
    cases p x <;> simp [nat] <;> omega
theorem filter_same (t : Cd) : ∀ (r : List Cd), sorted r → (r.filter (fun z => same t z)).length = if t ∈ r then 1 else 0
  | [], _ => by simp
  | x :: r, h => by
    obtain ⟨h1, h2⟩ := List.pairwise_cons.1 h
    rw [List.filter_cons]
    by_cases hx : t = x
    · subst hx
      have hs : same t t = true := same_iff.2 rfl
      have he : r.filter (fun z => same t z) = [] := List.filter_eq_nil_iff.2 fun z hz hc => by
        have := h1 z hz
        rw [same_iff] at hc
        rw [hc] at this
        omega
      rw [if_pos hs, he, if_pos (by simp)]; rfl
    · have hs : ¬ same t x = true := fun hc => hx (same_iff.1 hc)
      rw [if_neg hs, filter_same t r h2]
      by_cases hm : t ∈ r
      · rw [if_pos hm, if_pos (by simp [hm])]
      · rw [if_neg hm, if_neg (by simp [hm, hx])]
theorem drop_sorted {l : List Cd} (h : sorted l) (k : Nat) : sorted (l.drop k) := List.Pairwise.sublist (List.drop_sublist k l) h
theorem mem_drop {l : List Cd} {t : Cd} {j : Nat} : t ∈ l.drop j ↔ ∃ k, j ≤ k ∧ l[k]? = some t := by
  rw [List.mem_iff_getElem?]
  constructor
  · rintro ⟨i, hi⟩
    rw [List.getElem?_drop] at hi
    exact ⟨j + i, by omega, hi⟩
  · rintro ⟨k, hk, h⟩
    exact ⟨k - j, by rw [List.getElem?_drop, show j + (k - j) = k by omega]; exact h⟩
theorem mdR_0 {T D : Nat} (h : D = 0) : mdR T D = ((0, 0), false) := if_pos h
theorem mdR_1 {T D : Nat} (h : 0 < D) : mdR T D = (frac T D, true) := if_neg (by omega)
theorem cho_small {n k : Nat} (hn : n ≤ 27) (hk : k ≤ 27) : ∀ i, i < k → cho n i ≤ 10000000000 := fun i _ => by
  have := cho_le n i
  have : 2 ^ n ≤ 2 ^ 27 := Nat.pow_le_pow_right (by omega) hn
  omega
theorem cho_27 {n k : Nat} (hn : n ≤ 27) : cho n k ≤ 1000000000 := by
  have := cho_le n k
  have : 2 ^ n ≤ 2 ^ 27 := Nat.pow_le_pow_right (by omega) hn
  omega
end Go.Proofs.Ytjanphcfflahkaa.chance
