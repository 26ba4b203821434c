/- Caps: a hand is one just if no card of it makes a line with two ahead of it. -/
import Derived.Test.YtnibkipepmakgaaPr
import Derived.Test.YtnibkipepmakgaaLm
namespace Go.Proofs.Ytnibkipepmakgaa.cards
open Go.RowKit
set_option linter.unusedVariables false

theorem take_sorted {l : List Cd} (h : sorted l) (k : Nat) : sorted (l.take k) := List.Pairwise.sublist (List.take_sublist k l) h
theorem take_ok {l : List Cd} (h : l.all Cd.ok = true) (k : Nat) : (l.take k).all Cd.ok = true := by
  rw [List.all_eq_true] at h ⊢
  exact fun x hx => h x (List.mem_of_mem_take hx)
theorem take_at {l : List Cd} {k i : Nat} {x : Cd} : (l.take k)[i]? = some x ↔ i < k ∧ l[i]? = some x := by
  rw [List.getElem?_take]
  split
  · rename_i h; simp [h]
  · rename_i h; simp [h]
/-- Three cards of a hand are a line. -/
def hasLine (l : List Cd) : Prop := ∃ (i j m : Nat) (x y z : Cd), i < j ∧ j < m ∧ l[i]? = some x ∧ l[j]? = some y ∧ l[m]? = some z ∧ line x y z = true
noncomputable def capB (l : List Cd) : Bool := @decide (¬ hasLine l) (Classical.propDecidable _)
theorem capB_true {l : List Cd} : capB l = true ↔ ¬ hasLine l := by simp [capB]
theorem capB_false {l : List Cd} : capB l = false ↔ hasLine l := by simp [capB]
/-- A card that makes a line with two ahead of it. -/
theorem cap_stop {l : List Cd} {k : Nat} {z : Cd} (hs : sorted l) (hok : l.all Cd.ok = true) (hz : l[k]? = some z) (h : 0 < thr (l.take k) z k) : capB l = false := by
  have hk := (List.getElem?_eq_some_iff.1 hz).1
  obtain ⟨i, j, x, y, hij, hx, hy, hl⟩ := (thr_pos (n := k) (by rw [List.length_take]; omega) (take_sorted hs k) (take_ok hok k) (ok_at hok hz)).1 h
  rw [take_at] at hx hy
  exact capB_false.2 ⟨i, j, k, x, y, z, hij, hy.1, hx.2, hy.2, hz, hl⟩
theorem cap_all {l : List Cd} {n : Nat} (hn : l.length = n) (hs : sorted l) (hok : l.all Cd.ok = true) (h : ∀ k z, k < n → l[k]? = some z → ¬ 0 < thr (l.take k) z k) : capB l = true := by
  rw [capB_true]
  rintro ⟨i, j, m, x, y, z, hij, hjm, hx, hy, hz, hl⟩
  have hk := (List.getElem?_eq_some_iff.1 hz).1
  exact h m z (by omega) hz ((thr_pos (n := m) (by rw [List.length_take]; omega) (take_sorted hs m) (take_ok hok m) (ok_at hok hz)).2 ⟨i, j, x, y, hij, take_at.2 ⟨by omega, hx⟩, take_at.2 ⟨hjm, hy⟩, hl⟩)
theorem app_ne {α : Type} {a b : List α} : a ++ b ≠ [] ↔ a ≠ [] ∨ b ≠ [] := by cases a <;> simp
theorem rowL_some (l : List Cd) (i : Nat) : ∀ j : Nat, rowL l i j ≠ [] ↔ ∃ k, k < j ∧ i < k ∧ item l i k ≠ []
  | 0 => by simp [rowL]
  | j + 1 => by
    have ih := rowL_some l i j
    simp only [rowL]
    rw [app_ne, ih]
    constructor
    · rintro (⟨k, h1, h2, h3⟩ | h)
      · exact ⟨k, by omega, h2, h3⟩
      · by_cases hij : i < j
        · rw [if_pos hij] at h; exact ⟨j, by omega, hij, h⟩
        · rw [if_neg hij] at h; exact absurd rfl h
    · rintro ⟨k, h1, h2, h3⟩
      by_cases hkj : k < j
      · exact .inl ⟨k, hkj, h2, h3⟩
      · obtain rfl : k = j := by omega
        exact .inr (by rw [if_pos h2]; exact h3)
theorem allL_some (l : List Cd) : ∀ i : Nat, allL l i ≠ [] ↔ ∃ k j, k < i ∧ j < l.length ∧ k < j ∧ item l k j ≠ []
  | 0 => by simp [allL]
  | i + 1 => by
    have ih := allL_some l i
    have hr := rowL_some l i l.length
    simp only [allL]
    rw [app_ne, ih, hr]
    constructor
    · rintro (⟨k, j, h1, h2, h3, h4⟩ | ⟨j, h1, h2, h3⟩)
      · exact ⟨k, j, by omega, h2, h3, h4⟩
      · exact ⟨i, j, by omega, h1, h2, h3⟩
    · rintro ⟨k, j, h1, h2, h3, h4⟩
      by_cases hki : k < i
      · exact .inl ⟨k, j, hki, h2, h3, h4⟩
      · obtain rfl : k = i := by omega
        exact .inr ⟨j, h2, h3, h4⟩
theorem item_some {l : List Cd} {i j : Nat} {x y : Cd} (hx : l[i]? = some x) (hy : l[j]? = some y) : item l i j ≠ [] ↔ there l (third x y) = true ∧ j < less l (third x y) := by
  unfold item
  rw [hx, hy]
  simp only
  split <;> rename_i h <;> simp [h]
/-- A hand has a line just if the list of lines is not empty. -/
theorem line_list {l : List Cd} {n : Nat} (hn : l.length = n) (hs : sorted l) (hok : l.all Cd.ok = true) : allL l n ≠ [] ↔ hasLine l := by
  rw [allL_some]
  constructor
  · rintro ⟨i, j, h1, h2, h3, h4⟩
    have hx : l[i]? = some l[i] := List.getElem?_eq_getElem (by omega)
    have hy : l[j]? = some l[j] := List.getElem?_eq_getElem h2
    obtain ⟨ht, hj⟩ := (item_some hx hy).1 h4
    obtain ⟨z, hz, he⟩ := of_decide_eq_true ht
    have e := num_inj (ok_at hok hz) (third_ok _ _) he
    refine ⟨i, j, _, _, _, z, h3, hj, hx, hy, hz, ?_⟩
    have hlt := sorted_lt hs h3 hx hy
    have hne : same l[i] l[j] = false := by
      rw [Bool.eq_false_iff]; intro hh; have h5 := same_iff.1 hh; rw [h5] at hlt; omega
    unfold line
    rw [hne, e]; simp [same]
  · rintro ⟨i, j, m, x, y, z, hij, hjm, hx, hy, hz, hl⟩
    have hj := (List.getElem?_eq_some_iff.1 hy).1
    refine ⟨i, j, by omega, hj, hij, (item_some hx hy).2 ?_⟩
    unfold line at hl
    have e := same_iff.1 ((Bool.and_eq_true _ _).mp hl).2
    have hp := (place_is (t := third x y) hs hz).1 (by rw [e])
    exact ⟨hp.1, by rw [hp.2]; exact hjm⟩
theorem cap_list {l : List Cd} {n : Nat} (hn : l.length = n) (hs : sorted l) (hok : l.all Cd.ok = true) : decide ((allL l n).length = 0) = capB l := by
  rw [Bool.eq_iff_iff, decide_eq_true_eq, capB_true, ← line_list hn hs hok, List.length_eq_zero_iff]
  simp
end Go.Proofs.Ytnibkipepmakgaa.cards
