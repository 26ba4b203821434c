/- MiddlesOf: the program and the model. -/
import Derived.Test.YtjmlefcmhjodeaaXe
import Derived.Test.YtjmlefcmhjodeaaSo
namespace Go.Proofs.Ytjmlefcmhjodeaa.others
open Go.RowKit
open cards reg
set_option linter.unusedVariables false

theorem fourB_iff {x y z t : Cd} : fourB [x, y, z, t] = true ↔ (x.ok = true ∧ y.ok = true ∧ z.ok = true ∧ t.ok = true) ∧ x ≠ y ∧ x ≠ z ∧ y ≠ z ∧ x ≠ t ∧ y ≠ t ∧ z ≠ t := by
  have ne_of : ∀ {a b : Cd}, same a b = false → a ≠ b := fun h e => by rw [same_iff.2 e] at h; cases h
  have of_ne : ∀ {a b : Cd}, a ≠ b → same a b = false := fun h => by rw [Bool.eq_false_iff]; intro e; exact h (same_iff.1 e)
  constructor
  · intro h
    have h := fourB_of h
    obtain ⟨x0, _⟩ := h 0 x (by simp) rfl
    obtain ⟨y0, y1⟩ := h 1 y (by simp) rfl
    obtain ⟨z0, z1⟩ := h 2 z (by simp) rfl
    obtain ⟨t0, t1⟩ := h 3 t (by simp) rfl
    exact ⟨⟨x0, y0, z0, t0⟩, ne_of (y1 0 x (by omega) rfl), ne_of (z1 0 x (by omega) rfl), ne_of (z1 1 y (by omega) rfl), ne_of (t1 0 x (by omega) rfl), ne_of (t1 1 y (by omega) rfl), ne_of (t1 2 z (by omega) rfl)⟩
  · rintro ⟨⟨x0, y0, z0, t0⟩, n1, n2, n3, n4, n5, n6⟩
    refine fourB_yes (fun j u hj hu => ?_)
    have hj : j < 4 := hj
    rcases (show j = 0 ∨ j = 1 ∨ j = 2 ∨ j = 3 by omega) with rfl | rfl | rfl | rfl
    · injection hu with hu; subst hu
      exact ⟨x0, fun k v hk => by omega⟩
    · injection hu with hu; subst hu
      refine ⟨y0, fun k v hk hv => ?_⟩
      obtain rfl : k = 0 := by omega
      injection hv with hv; subst hv; exact of_ne n1
    · injection hu with hu; subst hu
      refine ⟨z0, fun k v hk hv => ?_⟩
      rcases (show k = 0 ∨ k = 1 by omega) with rfl | rfl <;> injection hv with hv <;> subst hv
      · exact of_ne n2
      · exact of_ne n3
    · injection hu with hu; subst hu
      refine ⟨t0, fun k v hk hv => ?_⟩
      rcases (show k = 0 ∨ k = 1 ∨ k = 2 by omega) with rfl | rfl | rfl <;> injection hv with hv <;> subst hv
      · exact of_ne n4
      · exact of_ne n5
      · exact of_ne n6
theorem put_len {l : List Cd} {c : Cd} : (put l c).length = if there l c = true then l.length else l.length + 1 := by
  unfold put
  split
  · rfl
  · have := less_le l c
    simp; omega
/-- As many different cards as there are. -/
theorem four_sorted {x y z t : Cd} (hx : x.ok = true) (hy : y.ok = true) (hz : z.ok = true) (ht : t.ok = true) : ((allPut [x, y, z, t]).length < 4 ↔ fourB [x, y, z, t] = false) ∧ (allPut [x, y, z, t]).length ≤ 4 := by
  have e : allPut [x, y, z, t] = put (put (put [x] y) z) t := rfl
  have s1 : sorted [x] := List.pairwise_singleton _ _
  have o1 : [x].all Cd.ok = true := by simp [hx]
  have s2 := put_sorted s1 o1 hy
  have o2 := put_ok s1 o1 hy
  have s3 := put_sorted s2 o2 hz
  have o3 := put_ok s2 o2 hz
  have m1 : there [x] y = true ↔ x = y := by rw [there_mem s1 o1 hy]; simp [eq_comm]
  have m2 : there (put [x] y) z = true ↔ z = y ∨ z = x := by rw [there_mem s2 o2 hz, put_mem s1 o1 hy]; simp
  have m3 : there (put (put [x] y) z) t = true ↔ t = z ∨ t = y ∨ t = x := by rw [there_mem s3 o3 ht, put_mem s2 o2 hz, put_mem s1 o1 hy]; simp
  have l1 := @put_len [x] y
  have l2 := @put_len (put [x] y) z
  have l3 := @put_len (put (put [x] y) z) t
  rw [e, Bool.eq_false_iff, Ne, fourB_iff]
  have e0 : [x].length = 1 := rfl
  by_cases c1 : there [x] y = true <;> by_cases c2 : there (put [x] y) z = true <;> by_cases c3 : there (put (put [x] y) z) t = true
  all_goals
    simp only [c1, c2, c3, if_true, if_false, Bool.false_eq_true] at l1 l2 l3
    refine ⟨⟨fun h hh => ?_, fun h => ?_⟩, by omega⟩
  all_goals first
    | omega
    | exact hh.2.1 (m1.1 c1)
    | exact (m2.1 c2).elim (fun r => hh.2.2.2.1 r.symm) (fun r => hh.2.2.1 r.symm)
    | exact (m3.1 c3).elim (fun r => hh.2.2.2.2.2.2 r.symm) (fun r => r.elim (fun r => hh.2.2.2.2.2.1 r.symm) (fun r => hh.2.2.2.2.1 r.symm))
    | (exfalso; exact h ⟨⟨hx, hy, hz, ht⟩, fun r => c1 (m1.2 r), fun r => c2 (m2.2 (.inr r.symm)), fun r => c2 (m2.2 (.inl r.symm)), fun r => c3 (m3.2 (.inr (.inr r.symm))), fun r => c3 (m3.2 (.inr (.inl r.symm))), fun r => c3 (m3.2 (.inl r.symm))⟩)
noncomputable def mdR (x y z t : Cd) : List Cd × Bool := if fourB [x, y, z, t] = true then (mids x y z t, true) else ([], false)
theorem mdR_len (x y z t : Cd) : (mdR x y z t).1.length ≤ 3 := by
  unfold mdR
  split
  · exact midTo_len x y z t 3
  · simp
/-- What the program asks of its sorted cards. -/
theorem sort_four (x y z t : Cd) : (fourB [x, y, z, t] = false ∧ ((sortR [x, y, z, t]).2 = false ∨ ((sortR [x, y, z, t]).2 = true ∧ (sortR [x, y, z, t]).1.length < 4))) ∨ (fourB [x, y, z, t] = true ∧ (sortR [x, y, z, t]).2 = true ∧ (sortR [x, y, z, t]).1.length = 4) := by
  by_cases h : [x, y, z, t].all Cd.ok = true
  · have h' := h
    simp only [List.all_cons, List.all_nil, Bool.and_true, Bool.and_eq_true] at h'
    obtain ⟨hx, hy, hz, ht⟩ := h'
    obtain ⟨h1, h2⟩ := four_sorted hx hy hz ht
    have e : sortR [x, y, z, t] = (allPut [x, y, z, t], true) := by unfold sortR; rw [if_pos ⟨h, by omega⟩]
    rw [e]
    cases hf : fourB [x, y, z, t]
    · exact .inl ⟨rfl, .inr ⟨rfl, h1.2 hf⟩⟩
    · refine .inr ⟨rfl, rfl, ?_⟩
      have : ¬ (allPut [x, y, z, t]).length < 4 := fun hh => by rw [h1.1 hh] at hf; cases hf
      show (allPut [x, y, z, t]).length = 4
      omega
  · refine .inl ⟨?_, .inl ?_⟩
    · rw [Bool.eq_false_iff]; intro hf
      obtain ⟨⟨hx, hy, hz, ht⟩, _⟩ := fourB_iff.1 hf
      exact h (by simp [hx, hy, hz, ht])
    · unfold sortR; rw [if_neg (fun hh => h hh.1)]
end Go.Proofs.Ytjmlefcmhjodeaa.others
