/- Lines that are counted among draws of three: as many as the list of all lines has. -/
import Derived.Test.YtcedbhgjabheaaaGc
import Derived.Test.YtcedbhgjabheaaaLm
namespace Go.Proofs.Ytcedbhgjabheaaa.chance
open Go.RowKit
open cards reg
set_option linter.unusedVariables false

instance decCd : DecidableEq Cd := fun x y => if h : same x y = true then .isTrue (same_iff.1 h) else .isFalse (fun e => h (same_iff.2 e))
theorem tot_one (f : List Cd → Nat) (p : Cd → Bool) (b : List Cd) : ∀ (r : List Cd), (∀ z ∈ r, f (b ++ [z]) = nat (p z)) → tot f 1 r b = (r.filter p).length
  | [], _ => rfl
  | x :: r, h => by
    rw [tot, tot_zero, h x (by simp), tot_one f p b r (fun z hz => h z (by simp [hz])), List.filter_cons]
    cases p x <;> simp [nat] <;> omega
theorem filter_same (t : Cd) : ∀ (r : List Cd), sorted r → (r.filter (fun z => same t z)).length = if t ∈ r then 1 else 0
  | [], _ => by simp
  | x :: r, h => by
    obtain ⟨h1, h2⟩ := List.pairwise_cons.1 h
    rw [List.filter_cons]
    by_cases hx : t = x
    · subst hx
      have hs : same t t = true := same_iff.2 rfl
      have he : r.filter (fun z => same t z) = [] := List.filter_eq_nil_iff.2 fun z hz hc => by
        have := h1 z hz
        rw [same_iff] at hc
        rw [hc] at this
        omega
      rw [if_pos hs, he, if_pos (by simp)]; rfl
    · have hs : ¬ same t x = true := fun hc => hx (same_iff.1 hc)
      rw [if_neg hs, filter_same t r h2]
      by_cases hm : t ∈ r
      · rw [if_pos hm, if_pos (by simp [hm])]
      · rw [if_neg hm, if_neg (by simp [hm, hx])]
theorem drop_sorted {l : List Cd} (h : sorted l) (k : Nat) : sorted (l.drop k) := List.Pairwise.sublist (List.drop_sublist k l) h
theorem mem_drop {l : List Cd} {t : Cd} {j : Nat} : t ∈ l.drop j ↔ ∃ k, j ≤ k ∧ l[k]? = some t := by
  rw [List.mem_iff_getElem?]
  constructor
  · rintro ⟨i, hi⟩
    rw [List.getElem?_drop] at hi
    exact ⟨j + i, by omega, hi⟩
  · rintro ⟨k, hk, h⟩
    exact ⟨k - j, by rw [List.getElem?_drop, show j + (k - j) = k by omega]; exact h⟩
theorem behind_iff {l : List Cd} {t : Cd} {j : Nat} (hs : sorted l) (hok : l.all Cd.ok = true) (ht : t.ok = true) : t ∈ l.drop (j + 1) ↔ there l t = true ∧ j < less l t := by
  rw [mem_drop]
  constructor
  · rintro ⟨k, hk, h⟩
    obtain ⟨h1, h2⟩ := (place_is hs h).1 rfl
    exact ⟨h1, by omega⟩
  · rintro ⟨h1, h2⟩
    obtain ⟨z, hz, hn⟩ := of_decide_eq_true h1
    have e := num_inj (ok_at hok hz) ht hn
    subst e
    exact ⟨_, h2, hz⟩
theorem tot_item {l : List Cd} {i j : Nat} {x y : Cd} (hs : sorted l) (hok : l.all Cd.ok = true) (hij : i < j) (hx : l[i]? = some x) (hy : l[j]? = some y) :
    tot (fun d => nat (line3 d)) 1 (l.drop (j + 1)) [x, y] = (item l i j).length := by
  have hne : same x y = false := by
    cases h : same x y
    · rfl
    · have := sorted_lt hs hij hx hy
      rw [same_iff.1 h] at this; omega
  rw [tot_one _ (fun z => same (third x y) z) [x, y] (l.drop (j + 1)) (fun z _ => by show nat (line x y z) = _; unfold line; rw [hne]; rfl), filter_same _ _ (drop_sorted hs _)]
  unfold item
  rw [hx, hy]
  simp only
  by_cases h : there l (third x y) = true ∧ j < less l (third x y)
  · rw [if_pos h, if_pos ((behind_iff hs hok (third_ok x y)).2 h)]; rfl
  · rw [if_neg h, if_neg (fun hc => h ((behind_iff hs hok (third_ok x y)).1 hc))]; rfl
theorem tot_row {l : List Cd} {i : Nat} {x : Cd} (hs : sorted l) (hok : l.all Cd.ok = true) (hx : l[i]? = some x) : ∀ (d j : Nat), i < j → j + d = l.length →
    tot (fun d => nat (line3 d)) 2 (l.drop j) [x] + (rowL l i j).length = (rowL l i l.length).length
  | 0, j, hij, hd => by rw [List.drop_of_length_le (by omega), show j = l.length by omega]; simp [tot]
  | d + 1, j, hij, hd => by
    have hy : l[j]? = some (l[j]'(by omega)) := List.getElem?_eq_getElem (by omega)
    have h1 := tot_row hs hok hx d (j + 1) (by omega) (by omega)
    have h2 := tot_item hs hok hij hx hy
    rw [tot_cons _ hy]
    simp only [rowL, List.length_append] at h1
    rw [if_pos hij] at h1
    show tot _ 1 _ [x, l[j]'(by omega)] + tot _ 2 _ _ + _ = _
    omega
theorem tot_all {l : List Cd} (hs : sorted l) (hok : l.all Cd.ok = true) : ∀ (d i : Nat), i + d = l.length →
    tot (fun d => nat (line3 d)) 3 (l.drop i) [] + (allL l i).length = (allL l l.length).length
  | 0, i, hd => by rw [List.drop_of_length_le (by omega), show i = l.length by omega]; simp [tot]
  | d + 1, i, hd => by
    have hx : l[i]? = some (l[i]'(by omega)) := List.getElem?_eq_getElem (by omega)
    have h1 := tot_all hs hok d (i + 1) (by omega)
    have h2 := tot_row hs hok hx (l.length - (i + 1)) (i + 1) (by omega) (by omega)
    rw [rowL_low (Nat.le_refl _)] at h2
    rw [tot_cons _ hx]
    simp only [allL, List.length_append] at h1
    simp only [List.length_nil] at h2
    show tot _ 2 _ [l[i]'(by omega)] + tot _ 3 _ _ + _ = _
    omega
/-- As many threes of a hand make lines as it has lines. -/
theorem lines_tot {l : List Cd} (hs : sorted l) (hok : l.all Cd.ok = true) : tot (fun d => nat (line3 d)) 3 l [] = (allL l l.length).length := by
  have h := tot_all hs hok l.length 0 (by omega)
  simpa [allL] using h
theorem mdR_0 {T D : Nat} (h : D = 0) : mdR T D = ((0, 0), false) := if_pos h
theorem mdR_1 {T D : Nat} (h : 0 < D) : mdR T D = (frac T D, true) := if_neg (by omega)
theorem cho_small {n k : Nat} (hn : n ≤ 27) (hk : k ≤ 27) : ∀ i, i < k → cho n i ≤ 10000000000 := fun i _ => by
  have := cho_le n i
  have : 2 ^ n ≤ 2 ^ 27 := Nat.pow_le_pow_right (by omega) hn
  omega
end Go.Proofs.Ytcedbhgjabheaaa.chance
