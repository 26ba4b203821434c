/- CountPickings and CountPartings: the program's and the model's. -/
import Derived.Test.YtnmlggieabjapaaZ6
import Derived.Test.YtnmlggieabjapaaZ7
namespace Go.Proofs.Ytnmlggieabjapaa.parting
open Go.RowKit
open cards maps
set_option linter.unusedVariables false

noncomputable def cpkR (l : List Cd) (N : Int) : Int × Bool := if poolP l = true ∧ (0 ≤ N ∧ N ≤ 5) then (((ct0 (allL l l.length) [] N.toNat : Nat) : Int), true) else (0, false)
theorem cpkR_no {l : List Cd} {N : Int} (h : ¬ (poolP l = true ∧ (0 ≤ N ∧ N ≤ 5))) : cpkR l N = (0, false) := by unfold cpkR; rw [if_neg h]
theorem cpkR_yes {l : List Cd} {N : Int} (h : poolP l = true) (h0 : 0 ≤ N) (h1 : N ≤ 5) : cpkR l N = (((ct0 (allL l l.length) [] N.toNat : Nat) : Int), true) := by unfold cpkR; rw [if_pos ⟨h, h0, h1⟩]
noncomputable def cptR (l : List Cd) : Int × Bool := if poolP l = true then (((cntP (allL l l.length) (l.length : Int) : Nat) : Int), true) else (0, false)

set_option maxRecDepth 100000 in
set_option maxHeartbeats 4000000 in
theorem impl_cpk (N : Int) (l : List Cd) (p : Option Addr) (n cp : Nat) (w : World) (hn : l.length = n) (hl : n ≤ 1000000000) (hr : Rd w p (flat l)) :
    Calls Try.prog 42 #[.slice p n cp, .int .i64 N] w fun e w' => e = .returned (.tuple #[.int .i64 (cpkR l N).1, .bool (cpkR l N).2]) ∧ Below w.heap.size w w' := by
  have HN := Lib.hid hn
  have HR := Lib.hid hr
  clear hn hr
  go_enter Try.func42, Try.ntmps42
  go_wp2_with fail
  refine ((can_be l p n cp _ HN.out hl (by repeat (first | with_reducible exact HR.out | with_reducible apply Rd.drewN | with_reducible apply Rd.drew | with_reducible apply Rd.alloc)))).mono ?_
  rintro e w1 ⟨rfl, b⟩
  have Sw1 := Lib.hid b.size
  have HB := Lib.hid (chain0 (w := w) (by repeat (first | with_reducible exact Below.refl _ _ | with_reducible exact HB.out | with_reducible apply Below.drew | with_reducible apply bdN | with_reducible refine Below.alloc ?_ (by first | exact Nat.le_refl _ | with_reducible exact HB.out.size | omega | (simp; done) | (simp; omega) | (have := HB.out.size; simp at *; omega)) _ | with_reducible refine Below.setCell ?_ (by first | exact Nat.le_refl _ | with_reducible exact HB.out.size | omega | (simp; done) | (simp; omega) | (have := HB.out.size; simp at *; omega)) _)) b)
  have HR := Lib.hid (Rd.below (by repeat (first | with_reducible exact HR.out | with_reducible apply Rd.drewN | with_reducible apply Rd.drew | with_reducible apply Rd.alloc)) b)
  clear b
  cases hh : poolP l
  · have HT := Lib.hid (cpkR_no (l := l) (N := N) (by simp [hh]))
    clear hh
    go_wp2_with fail
    go_ret2
    exact ⟨ret_ib (by rw [HT.out]), HB.out⟩
  · by_cases g0 : 0 ≤ N ∧ N ≤ 5
    · obtain ⟨g0, g1⟩ := g0
      have HT := Lib.hid (cpkR_yes (l := l) (N := N) hh g0 g1)
      rw [HN.out] at HT
      have h15 : n ≤ 15 := by have := (poolP_iff.1 hh).2; have := HN.out; omega
      have HF := count_pickings l (N * 3) p n cp w1 HN.out HR.out (poolP_iff.1 hh).1 h15
      have he : cntP (allL l n) (N * 3) = ct0 (allL l n) [] N.toNat := by rw [← cntP_three, Int.toNat_of_nonneg g0]
      rw [he] at HF
      replace HF := Lib.hid HF
      clear hh he
      go_wp2_with fail
      refine (HF.out).mono ?_
      rintro e w2 ⟨rfl, b⟩
      have Sw2 := Lib.hid b.size
      have HB := Lib.hid (chain0 (w := w) (by repeat (first | with_reducible exact Below.refl _ _ | with_reducible exact HB.out | with_reducible apply Below.drew | with_reducible apply bdN | with_reducible refine Below.alloc ?_ (by first | exact Nat.le_refl _ | with_reducible exact HB.out.size | omega | (simp; done) | (simp; omega) | (have := HB.out.size; simp at *; omega)) _ | with_reducible refine Below.setCell ?_ (by first | exact Nat.le_refl _ | with_reducible exact HB.out.size | omega | (simp; done) | (simp; omega) | (have := HB.out.size; simp at *; omega)) _)) b)
      have HR := Lib.hid (Rd.below (by repeat (first | with_reducible exact HR.out | with_reducible apply Rd.drewN | with_reducible apply Rd.drew | with_reducible apply Rd.alloc)) b)
      clear b
      go_wp2_with fail
      go_ret2
      exact ⟨ret_ib (by rw [HT.out]), HB.out⟩
    · have HT := Lib.hid (cpkR_no (l := l) (N := N) (fun h => g0 h.2))
      have hor : N < 0 ∨ (0 ≤ N ∧ 5 < N) := by omega
      clear hh g0
      rcases hor with h | ⟨h0, h1⟩
      · go_wp2_with fail
        go_ret2
        exact ⟨ret_ib (by rw [HT.out]), HB.out⟩
      · go_wp2_with fail
        go_ret2
        exact ⟨ret_ib (by rw [HT.out]), HB.out⟩

set_option maxRecDepth 100000 in
set_option maxHeartbeats 4000000 in
theorem impl_cpt (l : List Cd) (p : Option Addr) (n cp : Nat) (w : World) (hn : l.length = n) (hl : n ≤ 1000000000) (hr : Rd w p (flat l)) (hcp : n ≤ cp) :
    Calls Try.prog 44 #[.slice p n cp] w fun e w' => e = .returned (.tuple #[.int .i64 (cptR l).1, .bool (cptR l).2]) ∧ Below w.heap.size w w' := by
  have HN := Lib.hid hn
  have HR := Lib.hid hr
  clear hn hr hcp
  go_enter Try.func44, Try.ntmps44
  go_wp2_with fail
  refine ((can_be l p n cp _ HN.out hl (by repeat (first | with_reducible exact HR.out | with_reducible apply Rd.drewN | with_reducible apply Rd.drew | with_reducible apply Rd.alloc)))).mono ?_
  rintro e w1 ⟨rfl, b⟩
  have Sw1 := Lib.hid b.size
  have HB := Lib.hid (chain0 (w := w) (by repeat (first | with_reducible exact Below.refl _ _ | with_reducible exact HB.out | with_reducible apply Below.drew | with_reducible apply bdN | with_reducible refine Below.alloc ?_ (by first | exact Nat.le_refl _ | with_reducible exact HB.out.size | omega | (simp; done) | (simp; omega) | (have := HB.out.size; simp at *; omega)) _ | with_reducible refine Below.setCell ?_ (by first | exact Nat.le_refl _ | with_reducible exact HB.out.size | omega | (simp; done) | (simp; omega) | (have := HB.out.size; simp at *; omega)) _)) b)
  have HR := Lib.hid (Rd.below (by repeat (first | with_reducible exact HR.out | with_reducible apply Rd.drewN | with_reducible apply Rd.drew | with_reducible apply Rd.alloc)) b)
  clear b
  cases hh : poolP l
  · have HT := Lib.hid (show cptR l = (0, false) by unfold cptR; rw [if_neg (by simp [hh])])
    clear hh
    go_wp2_with fail
    go_ret2
    exact ⟨ret_ib (by rw [HT.out]), HB.out⟩
  · have HT := Lib.hid (show cptR l = (((cntP (allL l n) (n : Int) : Nat) : Int), true) by unfold cptR; rw [if_pos hh, HN.out])
    have h15 : n ≤ 15 := by have := (poolP_iff.1 hh).2; have := HN.out; omega
    have HF := Lib.hid (count_pickings l (n : Int) p n cp w1 HN.out HR.out (poolP_iff.1 hh).1 h15)
    clear hh
    go_wp2_with fail
    refine (HF.out).mono ?_
    rintro e w2 ⟨rfl, b⟩
    have Sw2 := Lib.hid b.size
    have HB := Lib.hid (chain0 (w := w) (by repeat (first | with_reducible exact Below.refl _ _ | with_reducible exact HB.out | with_reducible apply Below.drew | with_reducible apply bdN | with_reducible refine Below.alloc ?_ (by first | exact Nat.le_refl _ | with_reducible exact HB.out.size | omega | (simp; done) | (simp; omega) | (have := HB.out.size; simp at *; omega)) _ | with_reducible refine Below.setCell ?_ (by first | exact Nat.le_refl _ | with_reducible exact HB.out.size | omega | (simp; done) | (simp; omega) | (have := HB.out.size; simp at *; omega)) _)) b)
    have HR := Lib.hid (Rd.below (by repeat (first | with_reducible exact HR.out | with_reducible apply Rd.drewN | with_reducible apply Rd.drew | with_reducible apply Rd.alloc)) b)
    clear b
    go_wp2_with fail
    go_ret2
    exact ⟨ret_ib (by rw [HT.out]), HB.out⟩

/-- The model's count behind the lines. -/
theorem count_call (A : List A3) (pa : Option Addr) (m ca r : Nat) (R : Int) (w2 : World) (hm : A.length = m) (hl : m ≤ 35) (hR : R = (r : Int)) (hr : r ≤ 100000) (hA : Rd w2 pa (A3.flat A)) :
    Calls Try.prog 74 #[.slice pa m ca, .slice (some ⟨w2.heap.size, 0, none⟩) 0 0, .int .i64 0, .int .i64 R] (w2.alloc (.cells #[] 56)) fun e w' => e = .returned (.int .i64 (ct0 A [] r : Nat)) ∧ Below w2.heap.size w2 w' :=
  (l7_count A pa m ca hm hl m 0 0 [] w2.heap.size 0 0 r R (w2.alloc (.cells #[] 56)) rfl hR hr (by omega) rfl (by omega) (hA.alloc _) ((OwnA3.empty w2 w2.heap.size (Nat.le_refl _)).rd)).mono fun e w' ⟨he, hb⟩ =>
    ⟨he, ((Below.refl _ _).alloc (Nat.le_refl _) _).trans (hb.mono (by simp))⟩

set_option maxRecDepth 100000 in
set_option maxHeartbeats 4000000 in
theorem spec_cpk (N : Int) (l : List Cd) (p : Option Addr) (n cp : Nat) (w : World) (hn : l.length = n) (hl : n ≤ 1000000000) (hr : Rd w p (flat l)) :
    Calls Try.prog 41 #[.slice p n cp, .int .i64 N] w fun e w' => e = .returned (.tuple #[.int .i64 (cpkR l N).1, .bool (cpkR l N).2]) ∧ Below w.heap.size w w' := by
  have HN := Lib.hid hn
  have HR := Lib.hid hr
  clear hn hr
  go_enter Try.func41, Try.ntmps41
  go_wp2_with fail
  refine ((l7_pool l p n cp _ HN.out hl (by repeat (first | with_reducible exact HR.out | with_reducible apply Rd.drewN | with_reducible apply Rd.drew | with_reducible apply Rd.alloc)))).mono ?_
  rintro e w1 ⟨rfl, b⟩
  have Sw1 := Lib.hid b.size
  have HB := Lib.hid (chain0 (w := w) (by repeat (first | with_reducible exact Below.refl _ _ | with_reducible exact HB.out | with_reducible apply Below.drew | with_reducible apply bdN | with_reducible refine Below.alloc ?_ (by first | exact Nat.le_refl _ | with_reducible exact HB.out.size | omega | (simp; done) | (simp; omega) | (have := HB.out.size; simp at *; omega)) _ | with_reducible refine Below.setCell ?_ (by first | exact Nat.le_refl _ | with_reducible exact HB.out.size | omega | (simp; done) | (simp; omega) | (have := HB.out.size; simp at *; omega)) _)) b)
  have HR := Lib.hid (Rd.below (by repeat (first | with_reducible exact HR.out | with_reducible apply Rd.drewN | with_reducible apply Rd.drew | with_reducible apply Rd.alloc)) b)
  clear b
  cases hh : poolP l
  · have HT := Lib.hid (cpkR_no (l := l) (N := N) (by simp [hh]))
    clear hh
    go_wp2_with fail
    go_ret2
    exact ⟨ret_ib (by rw [HT.out]), HB.out⟩
  · by_cases g0 : 0 ≤ N ∧ N ≤ 5
    · obtain ⟨g0, g1⟩ := g0
      have HT := Lib.hid (cpkR_yes (l := l) (N := N) hh g0 g1)
      rw [HN.out] at HT
      have h15 : n ≤ 15 := by have := (poolP_iff.1 hh).2; have := HN.out; omega
      have HH := Lib.hid (handB_true.1 (poolP_iff.1 hh).1)
      have hlen := few_lines HN.out HH.out h15
      have HL := l2_lines l p n cp w1 HN.out (by omega) HR.out HH.out.2.1 HH.out.2.2
      obtain ⟨A, hA⟩ : ∃ A, allL l n = A := ⟨_, rfl⟩
      rw [hA] at HT HL hlen
      replace HL := Lib.hid HL
      obtain ⟨m, hm⟩ : ∃ m, A.length = m := ⟨_, rfl⟩
      rw [hm] at hlen
      have HM := Lib.hid hm
      clear hA hm hh
      go_wp2_with fail
      refine (in_yes N 0 5 _ g0 g1).mono ?_
      rintro e w' ⟨rfl, rfl⟩
      go_wp2_with fail
      refine (HL.out).mono ?_
      rintro e w2 ⟨u, rfl, hu, b⟩
      have HU := Lib.hid hu
      have Sw2 := Lib.hid b.size
      have HB := Lib.hid (chain0 (w := w) (by repeat (first | with_reducible exact Below.refl _ _ | with_reducible exact HB.out | with_reducible apply Below.drew | with_reducible apply bdN | with_reducible refine Below.alloc ?_ (by first | exact Nat.le_refl _ | with_reducible exact HB.out.size | omega | (simp; done) | (simp; omega) | (have := HB.out.size; simp at *; omega)) _ | with_reducible refine Below.setCell ?_ (by first | exact Nat.le_refl _ | with_reducible exact HB.out.size | omega | (simp; done) | (simp; omega) | (have := HB.out.size; simp at *; omega)) _)) b)
      have HR := Lib.hid (Rd.below (by repeat (first | with_reducible exact HR.out | with_reducible apply Rd.drewN | with_reducible apply Rd.drew | with_reducible apply Rd.alloc)) b)
      clear b
      clear hu
      obtain ⟨pa, ca, rfl, _, ra, _⟩ := HU.out.form
      rw [HM.out]
      have HA := Lib.hid ra
      clear ra HU
      go_wp2_with fail
      refine (count_call A pa m ca N.toNat N w2 HM.out hlen (Int.toNat_of_nonneg g0).symm (by omega) HA.out).mono ?_
      rintro e w3 ⟨rfl, b3⟩
      have HB3 : Hid (Below w.heap.size w w3) := Lib.hid (chain0 HB.out b3)
      clear b3
      go_wp2_with fail
      go_ret2
      exact ⟨ret_ib (by rw [HT.out]), HB3.out⟩
    · have HT := Lib.hid (cpkR_no (l := l) (N := N) (fun h => g0 h.2))
      have hno : N < 0 ∨ 5 < N := by omega
      replace hno := Lib.hid hno
      clear hh g0
      go_wp2_with fail
      refine (in_no N 0 5 _ hno.out).mono ?_
      rintro e w' ⟨rfl, rfl⟩
      go_wp2_with fail
      go_ret2
      exact ⟨ret_ib (by rw [HT.out]), HB.out⟩

set_option maxRecDepth 100000 in
set_option maxHeartbeats 4000000 in
theorem spec_cpt (l : List Cd) (p : Option Addr) (n cp : Nat) (w : World) (hn : l.length = n) (hl : n ≤ 1000000000) (hr : Rd w p (flat l)) (hcp : n ≤ cp) :
    Calls Try.prog 43 #[.slice p n cp] w fun e w' => e = .returned (.tuple #[.int .i64 (cptR l).1, .bool (cptR l).2]) ∧ Below w.heap.size w w' := by
  have HN := Lib.hid hn
  have HR := Lib.hid hr
  clear hn hr hcp
  go_enter Try.func43, Try.ntmps43
  go_wp2_with fail
  refine ((l7_pool l p n cp _ HN.out hl (by repeat (first | with_reducible exact HR.out | with_reducible apply Rd.drewN | with_reducible apply Rd.drew | with_reducible apply Rd.alloc)))).mono ?_
  rintro e w1 ⟨rfl, b⟩
  have Sw1 := Lib.hid b.size
  have HB := Lib.hid (chain0 (w := w) (by repeat (first | with_reducible exact Below.refl _ _ | with_reducible exact HB.out | with_reducible apply Below.drew | with_reducible apply bdN | with_reducible refine Below.alloc ?_ (by first | exact Nat.le_refl _ | with_reducible exact HB.out.size | omega | (simp; done) | (simp; omega) | (have := HB.out.size; simp at *; omega)) _ | with_reducible refine Below.setCell ?_ (by first | exact Nat.le_refl _ | with_reducible exact HB.out.size | omega | (simp; done) | (simp; omega) | (have := HB.out.size; simp at *; omega)) _)) b)
  have HR := Lib.hid (Rd.below (by repeat (first | with_reducible exact HR.out | with_reducible apply Rd.drewN | with_reducible apply Rd.drew | with_reducible apply Rd.alloc)) b)
  clear b
  cases hh : poolP l
  · have HT := Lib.hid (show cptR l = (0, false) by unfold cptR; rw [if_neg (by simp [hh])])
    clear hh
    go_wp2_with fail
    go_ret2
    exact ⟨ret_ib (by rw [HT.out]), HB.out⟩
  · have HT := Lib.hid (show cptR l = (((cntP (allL l n) (n : Int) : Nat) : Int), true) by unfold cptR; rw [if_pos hh, HN.out])
    have h15 : n ≤ 15 := by have := (poolP_iff.1 hh).2; have := HN.out; omega
    have HH := Lib.hid (handB_true.1 (poolP_iff.1 hh).1)
    have hlen := few_lines HN.out HH.out h15
    have HL := l2_lines l p n cp w1 HN.out (by omega) HR.out HH.out.2.1 HH.out.2.2
    obtain ⟨A, hA⟩ : ∃ A, allL l n = A := ⟨_, rfl⟩
    rw [hA] at HT HL hlen
    replace HL := Lib.hid HL
    obtain ⟨m, hm⟩ : ∃ m, A.length = m := ⟨_, rfl⟩
    rw [hm] at hlen
    have HM := Lib.hid hm
    clear hA hm hh
    by_cases h3 : n % 3 = 0
    · obtain ⟨r, hr3⟩ : ∃ r, n = r * 3 := ⟨n / 3, by omega⟩
      have he : cntP A (n : Int) = ct0 A [] r := by
        rw [← cntP_three]
        congr 1
        omega
      rw [he] at HT
      have hr1 : (n : Int).tmod 3 = 0 := by rw [Int.tmod_eq_emod_of_nonneg (by omega)]; omega
      have hr2 : (n : Int) % 3 = 0 := by omega
      have hr4 : (n : Int).tdiv 3 = (r : Int) := by rw [Int.tdiv_eq_ediv_of_nonneg (by omega)]; omega
      have hr5 : (n : Int) / 3 = (r : Int) := by omega
      have hr6 : r ≤ 100000 := by omega
      clear he hr3 h3
      go_wp2_with fail
      refine (HL.out).mono ?_
      rintro e w2 ⟨u, rfl, hu, b⟩
      have HU := Lib.hid hu
      have Sw2 := Lib.hid b.size
      have HB := Lib.hid (chain0 (w := w) (by repeat (first | with_reducible exact Below.refl _ _ | with_reducible exact HB.out | with_reducible apply Below.drew | with_reducible apply bdN | with_reducible refine Below.alloc ?_ (by first | exact Nat.le_refl _ | with_reducible exact HB.out.size | omega | (simp; done) | (simp; omega) | (have := HB.out.size; simp at *; omega)) _ | with_reducible refine Below.setCell ?_ (by first | exact Nat.le_refl _ | with_reducible exact HB.out.size | omega | (simp; done) | (simp; omega) | (have := HB.out.size; simp at *; omega)) _)) b)
      have HR := Lib.hid (Rd.below (by repeat (first | with_reducible exact HR.out | with_reducible apply Rd.drewN | with_reducible apply Rd.drew | with_reducible apply Rd.alloc)) b)
      clear b
      clear hu
      obtain ⟨pa, ca, rfl, _, ra, _⟩ := HU.out.form
      rw [HM.out]
      have HA := Lib.hid ra
      clear ra HU
      go_wp2_with fail
      refine (count_call A pa m ca r (r : Int) w2 HM.out hlen rfl hr6 HA.out).mono ?_
      rintro e w3 ⟨rfl, b3⟩
      have HB3 : Hid (Below w.heap.size w w3) := Lib.hid (chain0 HB.out b3)
      clear b3
      go_wp2_with fail
      go_ret2
      exact ⟨ret_ib (by rw [HT.out]), HB3.out⟩
    · have HT2 := Lib.hid (show cptR l = (0, true) by rw [HT.out, cntP_no A n h3]; rfl)
      have hr1 : ((n : Int).tmod 3 != 0) = true := by rw [Int.tmod_eq_emod_of_nonneg (by omega)]; simp; omega
      have hr2 : ((n : Int) % 3 != 0) = true := by simp; omega
      have hr3 : ¬ (n : Int) % 3 = 0 := by omega
      clear h3
      go_wp2_with fail
      go_ret2
      exact ⟨ret_ib (by rw [HT2.out]), HB.out⟩
end Go.Proofs.Ytnmlggieabjapaa.parting
