/- Lines that are counted among draws of three: as many as the list of all lines has. -/
import Derived.Test.YtjanphcfflahkaaGc
import Derived.Test.YtjanphcfflahkaaLm
namespace Go.Proofs.Ytjanphcfflahkaa.chance
open Go.RowKit
open cards reg
set_option linter.unusedVariables false

theorem behind_iff {l : List Cd} {t : Cd} {j : Nat} (hs : sorted l) (hok : l.all Cd.ok = true) (ht : t.ok = true) : t ∈ l.drop (j + 1) ↔ there l t = true ∧ j < less l t := by
  rw [mem_drop]
  constructor
  · rintro ⟨k, hk, h⟩
    obtain ⟨h1, h2⟩ := (place_is hs h).1 rfl
    exact ⟨h1, by omega⟩
  · rintro ⟨h1, h2⟩
    obtain ⟨z, hz, hn⟩ := of_decide_eq_true h1
    have e := num_inj (ok_at hok hz) ht hn
    subst e
    exact ⟨_, h2, hz⟩
theorem tot_item {l : List Cd} {i j : Nat} {x y : Cd} (hs : sorted l) (hok : l.all Cd.ok = true) (hij : i < j) (hx : l[i]? = some x) (hy : l[j]? = some y) :
    tot (fun d => nat (line3 d)) 1 (l.drop (j + 1)) [x, y] = (item l i j).length := by
  have hne : same x y = false := by
    cases h : same x y
    · rfl
    · have := sorted_lt hs hij hx hy
      rw [same_iff.1 h] at this; omega
  rw [tot_one _ (fun z => same (third x y) z) [x, y] (l.drop (j + 1)) (fun z _ => by show nat (line x y z) = _; unfold line; rw [hne]; rfl), filter_same _ _ (drop_sorted hs _)]
  unfold item
  rw [hx, hy]
  simp only
  by_cases h : there l (third x y) = true ∧ j < less l (third x y)
  · rw [if_pos h, if_pos ((behind_iff hs hok (third_ok x y)).2 h)]; rfl
  · rw [if_neg h, if_neg (fun hc => h ((behind_iff hs hok (third_ok x y)).1 hc))]; rfl
theorem tot_row {l : List Cd} {i : Nat} {x : Cd} (hs : sorted l) (hok : l.all Cd.ok = true) (hx : l[i]? = some x) : ∀ (d j : Nat), i < j → j + d = l.length →
    tot (fun d => nat (line3 d)) 2 (l.drop j) [x] + (rowL l i j).length = (rowL l i l.length).length
  | 0, j, hij, hd => by rw [List.drop_of_length_le (by omega), show j = l.length by omega]; simp [tot]
  | d + 1, j, hij, hd => by
    have hy : l[j]? = some (l[j]'(by omega)) := List.getElem?_eq_getElem (by omega)
    have h1 := tot_row hs hok hx d (j + 1) (by omega) (by omega)
    have h2 := tot_item hs hok hij hx hy
    rw [tot_cons _ hy]
    simp only [rowL, List.length_append] at h1
    rw [if_pos hij] at h1
    show tot _ 1 _ [x, l[j]'(by omega)] + tot _ 2 _ _ + _ = _
    omega
theorem tot_all {l : List Cd} (hs : sorted l) (hok : l.all Cd.ok = true) : ∀ (d i : Nat), i + d = l.length →
    tot (fun d => nat (line3 d)) 3 (l.drop i) [] + (allL l i).length = (allL l l.length).length
  | 0, i, hd => by rw [List.drop_of_length_le (by omega), show i = l.length by omega]; simp [tot]
  | d + 1, i, hd => by
    have hx : l[i]? = some (l[i]'(by omega)) := List.getElem?_eq_getElem (by omega)
    have h1 := tot_all hs hok d (i + 1) (by omega)
    have h2 := tot_row hs hok hx (l.length - (i + 1)) (i + 1) (by omega) (by omega)
    rw [rowL_low (Nat.le_refl _)] at h2
    rw [tot_cons _ hx]
    simp only [allL, List.length_append] at h1
    simp only [List.length_nil] at h2
    show tot _ 2 _ [l[i]'(by omega)] + tot _ 3 _ _ + _ = _
    omega
/-- As many threes of a hand make lines as it has lines. -/
theorem lines_tot {l : List Cd} (hs : sorted l) (hok : l.all Cd.ok = true) : tot (fun d => nat (line3 d)) 3 l [] = (allL l l.length).length := by
  have h := tot_all hs hok l.length 0 (by omega)
  simpa [allL] using h
end Go.Proofs.Ytjanphcfflahkaa.chance
