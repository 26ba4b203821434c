/- FnExactLayMore: for every Deal, valid or not, the law returns true and its arguments read as before. No condition. -/
import Derived.Test.YtghjopgbhodccaaRows
import Derived.Test.YtghjopgbhodccaaQf
import Derived.Test.YtghjopgbhodccaaQw
import Derived.Test.YtghjopgbhodccaaUa
import Derived.Deep.RegionHeld3
import Derived.Deep.DeepCutAuto
namespace Go.Proofs.Ytghjopgbhodccaa.lawLayMore
open Go.ChangeShapes Go.WideShapes Go.ChangeAt Go.RowKit
open Go.ChangeMaps (open_string shut_string)
open cards deal
set_option linter.unusedVariables false

set_option maxRecDepth 100000 in
set_option maxHeartbeats 4000000 in
theorem walk (s nx : Int) (p : Option Addr) (n c : Nat) (l : List Cd) (w : World) (hw : l.length = n ∧ n ≤ maxLen ∧ Rd w p (flat l) ∧ (∀ x ∈ l, wfc x) ∧ (Lit.int .i64 s).wf = true ∧ (Lit.int .i64 nx).wf = true) :
    Calls Try.prog 10 #[dval s nx (.slice p n c)] w fun e w' => e = .returned (.bool true) ∧ Below w.heap.size w w' := by
  obtain ⟨hn, hm, hr, hwf, _, _⟩ := hw
  have HN := Lib.hid hn
  have HM := Lib.hid hm
  have HR := Lib.hid hr
  have HR0 := Lib.hid hr
  have HW := Lib.hid hwf
  clear hn hm hr hwf
  by_cases hs : ¬ n ≤ 1048576
  · have z0 := szLeft_no hs
    go_enter Try.func10, Try.ntmps10
    go_wp2_with fail
    refine ((sz_deal s nx p n c 1048576 _ (by omega) (by omega) HM.out)).mono ?_
    rintro e w0 ⟨rfl, b⟩
    have Sw0 := Lib.hid b.size
    have HB := Lib.hid (chain0 (w := w) (by repeat (first | with_reducible exact Below.refl _ _ | with_reducible exact HB.out | with_reducible apply Below.drew | with_reducible apply bdN | with_reducible refine Below.alloc ?_ (by first | exact Nat.le_refl _ | (simp; done) | (simp; omega) | (have := HB.out.size; simp at *; omega)) _ | with_reducible refine Below.setCell ?_ (by first | exact Nat.le_refl _ | (simp; done) | (simp; omega) | (have := HB.out.size; simp at *; omega)) _)) b)
    clear b
    go_wp2_with fail
    go_ret
    exact ⟨rfl, by repeat (first | with_reducible exact Below.refl _ _ | with_reducible exact HB.out | with_reducible apply Below.drew | with_reducible apply bdN | with_reducible refine Below.alloc ?_ (by first | exact Nat.le_refl _ | (simp; done) | (simp; omega) | (have := HB.out.size; simp at *; omega)) _ | with_reducible refine Below.setCell ?_ (by first | exact Nat.le_refl _ | (simp; done) | (simp; omega) | (have := HB.out.size; simp at *; omega)) _)⟩
  · obtain ⟨z0, z1⟩ := szLeft_yes (Nat.le_of_not_lt (fun h => hs (Nat.not_le_of_lt h)))
    have hs : n ≤ 1048576 := Nat.le_of_not_lt (fun h => hs (Nat.not_le_of_lt h))
    have HL : Hid (((lmR ⟨s, nx, l⟩).1.l).length ≤ 100000000) := Lib.hid (Nat.le_trans (lmR_len _) (by omega))
    have HS := Lib.hid (fun p n c B w a b o => spec_lm s nx l p n c B w a b o HW.out)
    have HI := Lib.hid (fun p n c B w a b o => impl_lm s nx l p n c B w a b o HW.out)
    obtain ⟨s1, hs1⟩ : ∃ s1, (lmR ⟨s, nx, l⟩).1.s = s1 := ⟨_, rfl⟩
    obtain ⟨n1, hn1⟩ : ∃ n1, (lmR ⟨s, nx, l⟩).1.nx = n1 := ⟨_, rfl⟩
    obtain ⟨R, hR⟩ : ∃ R, (lmR ⟨s, nx, l⟩).1.l = R := ⟨_, rfl⟩
    obtain ⟨ok, hok⟩ : ∃ ok, (lmR ⟨s, nx, l⟩).2 = ok := ⟨_, rfl⟩
    rw [hR] at HL
    rw [hR, hok, hs1, hn1] at HS HI
    clear hR hok hs1 hn1
    obtain ⟨m, hm⟩ : ∃ m, R.length = m := ⟨_, rfl⟩
    have HMm := Lib.hid hm
    rw [hm] at HL
    clear hm
    go_enter Try.func10, Try.ntmps10
    go_wp2_with fail
    refine ((sz_deal s nx p n c 1048576 _ (by omega) (by omega) HM.out)).mono ?_
    rintro e w0 ⟨rfl, b⟩
    have Sw0 := Lib.hid b.size
    have HB := Lib.hid (chain0 (w := w) (by repeat (first | with_reducible exact Below.refl _ _ | with_reducible exact HB.out | with_reducible apply Below.drew | with_reducible apply bdN | with_reducible refine Below.alloc ?_ (by first | exact Nat.le_refl _ | (simp; done) | (simp; omega) | (have := HB.out.size; simp at *; omega)) _ | with_reducible refine Below.setCell ?_ (by first | exact Nat.le_refl _ | (simp; done) | (simp; omega) | (have := HB.out.size; simp at *; omega)) _)) b)
    have HR := Lib.hid (Rd.below (by repeat (first | with_reducible exact HR.out | with_reducible apply Rd.drewN | with_reducible apply Rd.drew | with_reducible apply Rd.alloc)) b)
    have K0 : Hid (DBox _ (w.heap.size) (⟨36, s, nx, .slice p n c⟩)) := Lib.hid (DBox.below (by repeat (first | with_reducible exact K0.out | with_reducible apply DBox.drewN | with_reducible apply DBox.drew | (with_reducible refine DBox.newAt ?_ ?_ <;> first | (simp; done) | rfl) | with_reducible apply DBox.alloc)) b)
    try clear k0a k0b k0c k0d k0z
    have k0z := K0.out.lt
    obtain ⟨k0a, k0b, k0c, k0d⟩ := K0.out.cell
    clear b
    have Yw1K0 := Lib.hid K0.out.lt
    go_wp2_with fail
    refine ((to_deal s nx l p n c _ HN.out (by omega) HR.out)).mono ?_
    rintro e w1 ⟨p1, c1, rfl, o1, r1, hc1, b⟩
    have Sw1 := Lib.hid b.size
    have L1 := Lib.hid o1.span
    have HB := Lib.hid (chain0 (w := w) (by repeat (first | with_reducible exact Below.refl _ _ | with_reducible exact HB.out | with_reducible apply Below.drew | with_reducible apply bdN | with_reducible refine Below.alloc ?_ (by first | exact Nat.le_refl _ | (simp; done) | (simp; omega) | (have := HB.out.size; simp at *; omega)) _ | with_reducible refine Below.setCell ?_ (by first | exact Nat.le_refl _ | (simp; done) | (simp; omega) | (have := HB.out.size; simp at *; omega)) _)) b)
    have Zw1 := Lib.hid HB.out.size
    have HR := Lib.hid (Rd.below (by repeat (first | with_reducible exact HR.out | with_reducible apply Rd.drewN | with_reducible apply Rd.drew | with_reducible apply Rd.alloc)) b)
    have K0 : Hid (DBox _ (w.heap.size) (⟨36, s, nx, .slice p n c⟩)) := Lib.hid (DBox.below (by repeat (first | with_reducible exact K0.out | with_reducible apply DBox.drewN | with_reducible apply DBox.drew | (with_reducible refine DBox.newAt ?_ ?_ <;> first | (simp; done) | rfl) | with_reducible apply DBox.alloc)) b)
    try clear k0a k0b k0c k0d k0z
    have k0z := K0.out.lt
    obtain ⟨k0a, k0b, k0c, k0d⟩ := K0.out.cell
    have O1 := Lib.hid o1
    have R1 := Lib.hid r1
    clear b o1 r1
    have Yw2K0 := Lib.hid K0.out.lt
    go_wp2_with fail
    refine ((HS.out p1 n c1 _ _ HN.out (by omega) O1.out)).mono ?_
    rintro e w2 ⟨va, rfl, oa, b⟩
    obtain ⟨pa, ca, rfl, hca, ra, _⟩ := oa.form
    rw [HMm.out] at oa hca ⊢
    have Sw2 := Lib.hid b.size
    have La := Lib.hid oa.span
    have HB := Lib.hid (chain0 (w := w) (by repeat (first | with_reducible exact Below.refl _ _ | with_reducible exact HB.out | with_reducible apply Below.drew | with_reducible apply bdN | with_reducible refine Below.alloc ?_ (by first | exact Nat.le_refl _ | (simp; done) | (simp; omega) | (have := HB.out.size; simp at *; omega)) _ | with_reducible refine Below.setCell ?_ (by first | exact Nat.le_refl _ | (simp; done) | (simp; omega) | (have := HB.out.size; simp at *; omega)) _)) b)
    have Zw2 := Lib.hid HB.out.size
    have HR := Lib.hid (Rd.below (by repeat (first | with_reducible exact HR.out | with_reducible apply Rd.drewN | with_reducible apply Rd.drew | with_reducible apply Rd.alloc)) b)
    have O1 := Lib.hid (Own.below (by repeat (first | with_reducible exact O1.out | with_reducible apply Own.drewN | with_reducible apply Own.drew | with_reducible apply Own.alloc)) b)
    have R1 := Lib.hid (Rd.below (by repeat (first | with_reducible exact R1.out | with_reducible apply Rd.drewN | with_reducible apply Rd.drew | with_reducible apply Rd.alloc)) b)
    have K0 : Hid (DBox _ (w.heap.size) (⟨36, s, nx, .slice p n c⟩)) := Lib.hid (DBox.below (by repeat (first | with_reducible exact K0.out | with_reducible apply DBox.drewN | with_reducible apply DBox.drew | (with_reducible refine DBox.newAt ?_ ?_ <;> first | (simp; done) | rfl) | with_reducible apply DBox.alloc)) b)
    try clear k0a k0b k0c k0d k0z
    have k0z := K0.out.lt
    obtain ⟨k0a, k0b, k0c, k0d⟩ := K0.out.cell
    have Oa := Lib.hid oa
    have Ra := Lib.hid ra
    clear b oa ra
    go_upto_region 6 with fail
    obtain ⟨w2b, ew, b⟩ : ∃ w1 : World, w1 = (w2.alloc (Dv.mk 31 s1 n1 (.slice pa m ca)).obj) ∧ Below ((w2.alloc (Dv.mk 31 s1 n1 (.slice pa m ca)).obj)).heap.size ((w2.alloc (Dv.mk 31 s1 n1 (.slice pa m ca)).obj)) w1 := ⟨_, rfl, Below.refl _ _⟩
    rw [← ew]
    clear ew
    have Sw2b := Lib.hid b.size
    have HB := Lib.hid (chain0 (w := w) (by repeat (first | with_reducible exact Below.refl _ _ | with_reducible exact HB.out | with_reducible apply Below.drew | with_reducible apply bdN | with_reducible refine Below.alloc ?_ (by first | exact Nat.le_refl _ | (simp; done) | (simp; omega) | (have := HB.out.size; simp at *; omega)) _ | with_reducible refine Below.setCell ?_ (by first | exact Nat.le_refl _ | (simp; done) | (simp; omega) | (have := HB.out.size; simp at *; omega)) _)) b)
    have HR := Lib.hid (Rd.below (by repeat (first | with_reducible exact HR.out | with_reducible apply Rd.drewN | with_reducible apply Rd.drew | with_reducible apply Rd.alloc)) b)
    have Oa := Lib.hid (Own.below (by repeat (first | with_reducible exact Oa.out | with_reducible apply Own.drewN | with_reducible apply Own.drew | with_reducible apply Own.alloc)) b)
    have Ra := Lib.hid (Rd.below (by repeat (first | with_reducible exact Ra.out | with_reducible apply Rd.drewN | with_reducible apply Rd.drew | with_reducible apply Rd.alloc)) b)
    have K0 : Hid (DBox _ (w.heap.size) (⟨36, s, nx, .slice p n c⟩)) := Lib.hid (DBox.below (by repeat (first | with_reducible exact K0.out | with_reducible apply DBox.drewN | with_reducible apply DBox.drew | (with_reducible refine DBox.newAt ?_ ?_ <;> first | (simp; done) | rfl) | with_reducible apply DBox.alloc)) b)
    have K4 : Hid (DBox _ (w2.heap.size) (⟨31, s1, n1, .slice pa m ca⟩)) := Lib.hid (DBox.below (by repeat (first | with_reducible exact K4.out | with_reducible apply DBox.drewN | with_reducible apply DBox.drew | (with_reducible refine DBox.newAt ?_ ?_ <;> first | (simp; done) | rfl) | with_reducible apply DBox.alloc)) b)
    try clear k0a k0b k0c k0d k0z
    have k0z := K0.out.lt
    obtain ⟨k0a, k0b, k0c, k0d⟩ := K0.out.cell
    try clear k4a k4b k4c k4d k4z
    have k4z := K4.out.lt
    obtain ⟨k4a, k4b, k4c, k4d⟩ := K4.out.cell
    clear b
    have Yw3K0 := Lib.hid K0.out.lt
    have Yw3K4 := Lib.hid K4.out.lt
    go_wp2_with fail
    refine ((to_deal s nx l p n c _ HN.out (by omega) HR.out)).mono ?_
    rintro e w3 ⟨p2, c2, rfl, o2, r2, hc2, b⟩
    have Sw3 := Lib.hid b.size
    have L2 := Lib.hid o2.span
    have HB := Lib.hid (chain0 (w := w) (by repeat (first | with_reducible exact Below.refl _ _ | with_reducible exact HB.out | with_reducible apply Below.drew | with_reducible apply bdN | with_reducible refine Below.alloc ?_ (by first | exact Nat.le_refl _ | (simp; done) | (simp; omega) | (have := HB.out.size; simp at *; omega)) _ | with_reducible refine Below.setCell ?_ (by first | exact Nat.le_refl _ | (simp; done) | (simp; omega) | (have := HB.out.size; simp at *; omega)) _)) b)
    have Zw3 := Lib.hid HB.out.size
    have HR := Lib.hid (Rd.below (by repeat (first | with_reducible exact HR.out | with_reducible apply Rd.drewN | with_reducible apply Rd.drew | with_reducible apply Rd.alloc)) b)
    have Oa := Lib.hid (Own.below (by repeat (first | with_reducible exact Oa.out | with_reducible apply Own.drewN | with_reducible apply Own.drew | with_reducible apply Own.alloc)) b)
    have Ra := Lib.hid (Rd.below (by repeat (first | with_reducible exact Ra.out | with_reducible apply Rd.drewN | with_reducible apply Rd.drew | with_reducible apply Rd.alloc)) b)
    have K0 : Hid (DBox _ (w.heap.size) (⟨36, s, nx, .slice p n c⟩)) := Lib.hid (DBox.below (by repeat (first | with_reducible exact K0.out | with_reducible apply DBox.drewN | with_reducible apply DBox.drew | (with_reducible refine DBox.newAt ?_ ?_ <;> first | (simp; done) | rfl) | with_reducible apply DBox.alloc)) b)
    have K4 : Hid (DBox _ (w2.heap.size) (⟨31, s1, n1, .slice pa m ca⟩)) := Lib.hid (DBox.below (by repeat (first | with_reducible exact K4.out | with_reducible apply DBox.drewN | with_reducible apply DBox.drew | (with_reducible refine DBox.newAt ?_ ?_ <;> first | (simp; done) | rfl) | with_reducible apply DBox.alloc)) b)
    try clear k0a k0b k0c k0d k0z
    have k0z := K0.out.lt
    obtain ⟨k0a, k0b, k0c, k0d⟩ := K0.out.cell
    try clear k4a k4b k4c k4d k4z
    have k4z := K4.out.lt
    obtain ⟨k4a, k4b, k4c, k4d⟩ := K4.out.cell
    have O2 := Lib.hid o2
    have R2 := Lib.hid r2
    clear b o2 r2
    go_upto_region 7 with fail
    obtain ⟨w3b, ew, b⟩ : ∃ w1 : World, w1 = (w3.alloc (Dv.mk 31 s nx (.slice p2 n c2)).obj) ∧ Below ((w3.alloc (Dv.mk 31 s nx (.slice p2 n c2)).obj)).heap.size ((w3.alloc (Dv.mk 31 s nx (.slice p2 n c2)).obj)) w1 := ⟨_, rfl, Below.refl _ _⟩
    rw [← ew]
    clear ew
    have Sw3b := Lib.hid b.size
    have HB := Lib.hid (chain0 (w := w) (by repeat (first | with_reducible exact Below.refl _ _ | with_reducible exact HB.out | with_reducible apply Below.drew | with_reducible apply bdN | with_reducible refine Below.alloc ?_ (by first | exact Nat.le_refl _ | (simp; done) | (simp; omega) | (have := HB.out.size; simp at *; omega)) _ | with_reducible refine Below.setCell ?_ (by first | exact Nat.le_refl _ | (simp; done) | (simp; omega) | (have := HB.out.size; simp at *; omega)) _)) b)
    have HR := Lib.hid (Rd.below (by repeat (first | with_reducible exact HR.out | with_reducible apply Rd.drewN | with_reducible apply Rd.drew | with_reducible apply Rd.alloc)) b)
    have Oa := Lib.hid (Own.below (by repeat (first | with_reducible exact Oa.out | with_reducible apply Own.drewN | with_reducible apply Own.drew | with_reducible apply Own.alloc)) b)
    have Ra := Lib.hid (Rd.below (by repeat (first | with_reducible exact Ra.out | with_reducible apply Rd.drewN | with_reducible apply Rd.drew | with_reducible apply Rd.alloc)) b)
    have O2 := Lib.hid (Own.below (by repeat (first | with_reducible exact O2.out | with_reducible apply Own.drewN | with_reducible apply Own.drew | with_reducible apply Own.alloc)) b)
    have R2 := Lib.hid (Rd.below (by repeat (first | with_reducible exact R2.out | with_reducible apply Rd.drewN | with_reducible apply Rd.drew | with_reducible apply Rd.alloc)) b)
    have K0 : Hid (DBox _ (w.heap.size) (⟨36, s, nx, .slice p n c⟩)) := Lib.hid (DBox.below (by repeat (first | with_reducible exact K0.out | with_reducible apply DBox.drewN | with_reducible apply DBox.drew | (with_reducible refine DBox.newAt ?_ ?_ <;> first | (simp; done) | rfl) | with_reducible apply DBox.alloc)) b)
    have K4 : Hid (DBox _ (w2.heap.size) (⟨31, s1, n1, .slice pa m ca⟩)) := Lib.hid (DBox.below (by repeat (first | with_reducible exact K4.out | with_reducible apply DBox.drewN | with_reducible apply DBox.drew | (with_reducible refine DBox.newAt ?_ ?_ <;> first | (simp; done) | rfl) | with_reducible apply DBox.alloc)) b)
    have K6 : Hid (DBox _ (w3.heap.size) (⟨31, s, nx, .slice p2 n c2⟩)) := Lib.hid (DBox.below (by repeat (first | with_reducible exact K6.out | with_reducible apply DBox.drewN | with_reducible apply DBox.drew | (with_reducible refine DBox.newAt ?_ ?_ <;> first | (simp; done) | rfl) | with_reducible apply DBox.alloc)) b)
    try clear k0a k0b k0c k0d k0z
    have k0z := K0.out.lt
    obtain ⟨k0a, k0b, k0c, k0d⟩ := K0.out.cell
    try clear k4a k4b k4c k4d k4z
    have k4z := K4.out.lt
    obtain ⟨k4a, k4b, k4c, k4d⟩ := K4.out.cell
    try clear k6a k6b k6c k6d k6z
    have k6z := K6.out.lt
    obtain ⟨k6a, k6b, k6c, k6d⟩ := K6.out.cell
    clear b
    have Yw4K0 := Lib.hid K0.out.lt
    have Yw4K4 := Lib.hid K4.out.lt
    have Yw4K6 := Lib.hid K6.out.lt
    go_wp2_with fail
    refine ((HI.out p2 n c2 _ _ HN.out (by omega) O2.out)).mono ?_
    rintro e w4 ⟨vb, rfl, ob, b⟩
    obtain ⟨pb, cb, rfl, hcb, rb, _⟩ := ob.form
    rw [HMm.out] at ob hcb ⊢
    have Sw4 := Lib.hid b.size
    have Lb := Lib.hid ob.span
    have HB := Lib.hid (chain0 (w := w) (by repeat (first | with_reducible exact Below.refl _ _ | with_reducible exact HB.out | with_reducible apply Below.drew | with_reducible apply bdN | with_reducible refine Below.alloc ?_ (by first | exact Nat.le_refl _ | (simp; done) | (simp; omega) | (have := HB.out.size; simp at *; omega)) _ | with_reducible refine Below.setCell ?_ (by first | exact Nat.le_refl _ | (simp; done) | (simp; omega) | (have := HB.out.size; simp at *; omega)) _)) b)
    have Zw4 := Lib.hid HB.out.size
    have HR := Lib.hid (Rd.below (by repeat (first | with_reducible exact HR.out | with_reducible apply Rd.drewN | with_reducible apply Rd.drew | with_reducible apply Rd.alloc)) b)
    have Oa := Lib.hid (Own.below (by repeat (first | with_reducible exact Oa.out | with_reducible apply Own.drewN | with_reducible apply Own.drew | with_reducible apply Own.alloc)) b)
    have Ra := Lib.hid (Rd.below (by repeat (first | with_reducible exact Ra.out | with_reducible apply Rd.drewN | with_reducible apply Rd.drew | with_reducible apply Rd.alloc)) b)
    have O2 := Lib.hid (Own.below (by repeat (first | with_reducible exact O2.out | with_reducible apply Own.drewN | with_reducible apply Own.drew | with_reducible apply Own.alloc)) b)
    have R2 := Lib.hid (Rd.below (by repeat (first | with_reducible exact R2.out | with_reducible apply Rd.drewN | with_reducible apply Rd.drew | with_reducible apply Rd.alloc)) b)
    have K0 : Hid (DBox _ (w.heap.size) (⟨36, s, nx, .slice p n c⟩)) := Lib.hid (DBox.below (by repeat (first | with_reducible exact K0.out | with_reducible apply DBox.drewN | with_reducible apply DBox.drew | (with_reducible refine DBox.newAt ?_ ?_ <;> first | (simp; done) | rfl) | with_reducible apply DBox.alloc)) b)
    have K4 : Hid (DBox _ (w2.heap.size) (⟨31, s1, n1, .slice pa m ca⟩)) := Lib.hid (DBox.below (by repeat (first | with_reducible exact K4.out | with_reducible apply DBox.drewN | with_reducible apply DBox.drew | (with_reducible refine DBox.newAt ?_ ?_ <;> first | (simp; done) | rfl) | with_reducible apply DBox.alloc)) b)
    have K6 : Hid (DBox _ (w3.heap.size) (⟨31, s, nx, .slice p2 n c2⟩)) := Lib.hid (DBox.below (by repeat (first | with_reducible exact K6.out | with_reducible apply DBox.drewN | with_reducible apply DBox.drew | (with_reducible refine DBox.newAt ?_ ?_ <;> first | (simp; done) | rfl) | with_reducible apply DBox.alloc)) b)
    try clear k0a k0b k0c k0d k0z
    have k0z := K0.out.lt
    obtain ⟨k0a, k0b, k0c, k0d⟩ := K0.out.cell
    try clear k4a k4b k4c k4d k4z
    have k4z := K4.out.lt
    obtain ⟨k4a, k4b, k4c, k4d⟩ := K4.out.cell
    try clear k6a k6b k6c k6d k6z
    have k6z := K6.out.lt
    obtain ⟨k6a, k6b, k6c, k6d⟩ := K6.out.cell
    have Ob := Lib.hid ob
    have Rb := Lib.hid rb
    clear b ob rb
    go_upto_region 8 with fail
    obtain ⟨w4b, ew, b⟩ : ∃ w1 : World, w1 = (w4.alloc (Dv.mk 31 s1 n1 (.slice pb m cb)).obj) ∧ Below ((w4.alloc (Dv.mk 31 s1 n1 (.slice pb m cb)).obj)).heap.size ((w4.alloc (Dv.mk 31 s1 n1 (.slice pb m cb)).obj)) w1 := ⟨_, rfl, Below.refl _ _⟩
    rw [← ew]
    clear ew
    have Sw4b := Lib.hid b.size
    have HB := Lib.hid (chain0 (w := w) (by repeat (first | with_reducible exact Below.refl _ _ | with_reducible exact HB.out | with_reducible apply Below.drew | with_reducible apply bdN | with_reducible refine Below.alloc ?_ (by first | exact Nat.le_refl _ | (simp; done) | (simp; omega) | (have := HB.out.size; simp at *; omega)) _ | with_reducible refine Below.setCell ?_ (by first | exact Nat.le_refl _ | (simp; done) | (simp; omega) | (have := HB.out.size; simp at *; omega)) _)) b)
    have HR := Lib.hid (Rd.below (by repeat (first | with_reducible exact HR.out | with_reducible apply Rd.drewN | with_reducible apply Rd.drew | with_reducible apply Rd.alloc)) b)
    have Oa := Lib.hid (Own.below (by repeat (first | with_reducible exact Oa.out | with_reducible apply Own.drewN | with_reducible apply Own.drew | with_reducible apply Own.alloc)) b)
    have Ra := Lib.hid (Rd.below (by repeat (first | with_reducible exact Ra.out | with_reducible apply Rd.drewN | with_reducible apply Rd.drew | with_reducible apply Rd.alloc)) b)
    have O2 := Lib.hid (Own.below (by repeat (first | with_reducible exact O2.out | with_reducible apply Own.drewN | with_reducible apply Own.drew | with_reducible apply Own.alloc)) b)
    have R2 := Lib.hid (Rd.below (by repeat (first | with_reducible exact R2.out | with_reducible apply Rd.drewN | with_reducible apply Rd.drew | with_reducible apply Rd.alloc)) b)
    have Ob := Lib.hid (Own.below (by repeat (first | with_reducible exact Ob.out | with_reducible apply Own.drewN | with_reducible apply Own.drew | with_reducible apply Own.alloc)) b)
    have Rb := Lib.hid (Rd.below (by repeat (first | with_reducible exact Rb.out | with_reducible apply Rd.drewN | with_reducible apply Rd.drew | with_reducible apply Rd.alloc)) b)
    have K0 : Hid (DBox _ (w.heap.size) (⟨36, s, nx, .slice p n c⟩)) := Lib.hid (DBox.below (by repeat (first | with_reducible exact K0.out | with_reducible apply DBox.drewN | with_reducible apply DBox.drew | (with_reducible refine DBox.newAt ?_ ?_ <;> first | (simp; done) | rfl) | with_reducible apply DBox.alloc)) b)
    have K4 : Hid (DBox _ (w2.heap.size) (⟨31, s1, n1, .slice pa m ca⟩)) := Lib.hid (DBox.below (by repeat (first | with_reducible exact K4.out | with_reducible apply DBox.drewN | with_reducible apply DBox.drew | (with_reducible refine DBox.newAt ?_ ?_ <;> first | (simp; done) | rfl) | with_reducible apply DBox.alloc)) b)
    have K6 : Hid (DBox _ (w3.heap.size) (⟨31, s, nx, .slice p2 n c2⟩)) := Lib.hid (DBox.below (by repeat (first | with_reducible exact K6.out | with_reducible apply DBox.drewN | with_reducible apply DBox.drew | (with_reducible refine DBox.newAt ?_ ?_ <;> first | (simp; done) | rfl) | with_reducible apply DBox.alloc)) b)
    have K7 : Hid (DBox _ (w4.heap.size) (⟨31, s1, n1, .slice pb m cb⟩)) := Lib.hid (DBox.below (by repeat (first | with_reducible exact K7.out | with_reducible apply DBox.drewN | with_reducible apply DBox.drew | (with_reducible refine DBox.newAt ?_ ?_ <;> first | (simp; done) | rfl) | with_reducible apply DBox.alloc)) b)
    try clear k0a k0b k0c k0d k0z
    have k0z := K0.out.lt
    obtain ⟨k0a, k0b, k0c, k0d⟩ := K0.out.cell
    try clear k4a k4b k4c k4d k4z
    have k4z := K4.out.lt
    obtain ⟨k4a, k4b, k4c, k4d⟩ := K4.out.cell
    try clear k6a k6b k6c k6d k6z
    have k6z := K6.out.lt
    obtain ⟨k6a, k6b, k6c, k6d⟩ := K6.out.cell
    try clear k7a k7b k7c k7d k7z
    have k7z := K7.out.lt
    obtain ⟨k7a, k7b, k7c, k7d⟩ := K7.out.cell
    clear b
    go_wp2_with fail
    refine ((eq_deal s1 n1 R pb pa m cb ca _ HMm.out (by have := HL.out; omega) Rb.out Ra.out)).mono ?_
    rintro e w5 ⟨rfl, b⟩
    have Sw5 := Lib.hid b.size
    have HB := Lib.hid (chain0 (w := w) (by repeat (first | with_reducible exact Below.refl _ _ | with_reducible exact HB.out | with_reducible apply Below.drew | with_reducible apply bdN | with_reducible refine Below.alloc ?_ (by first | exact Nat.le_refl _ | (simp; done) | (simp; omega) | (have := HB.out.size; simp at *; omega)) _ | with_reducible refine Below.setCell ?_ (by first | exact Nat.le_refl _ | (simp; done) | (simp; omega) | (have := HB.out.size; simp at *; omega)) _)) b)
    have HR := Lib.hid (Rd.below (by repeat (first | with_reducible exact HR.out | with_reducible apply Rd.drewN | with_reducible apply Rd.drew | with_reducible apply Rd.alloc)) b)
    have Oa := Lib.hid (Own.below (by repeat (first | with_reducible exact Oa.out | with_reducible apply Own.drewN | with_reducible apply Own.drew | with_reducible apply Own.alloc)) b)
    have Ra := Lib.hid (Rd.below (by repeat (first | with_reducible exact Ra.out | with_reducible apply Rd.drewN | with_reducible apply Rd.drew | with_reducible apply Rd.alloc)) b)
    have O2 := Lib.hid (Own.below (by repeat (first | with_reducible exact O2.out | with_reducible apply Own.drewN | with_reducible apply Own.drew | with_reducible apply Own.alloc)) b)
    have R2 := Lib.hid (Rd.below (by repeat (first | with_reducible exact R2.out | with_reducible apply Rd.drewN | with_reducible apply Rd.drew | with_reducible apply Rd.alloc)) b)
    have Ob := Lib.hid (Own.below (by repeat (first | with_reducible exact Ob.out | with_reducible apply Own.drewN | with_reducible apply Own.drew | with_reducible apply Own.alloc)) b)
    have Rb := Lib.hid (Rd.below (by repeat (first | with_reducible exact Rb.out | with_reducible apply Rd.drewN | with_reducible apply Rd.drew | with_reducible apply Rd.alloc)) b)
    have K0 : Hid (DBox _ (w.heap.size) (⟨36, s, nx, .slice p n c⟩)) := Lib.hid (DBox.below (by repeat (first | with_reducible exact K0.out | with_reducible apply DBox.drewN | with_reducible apply DBox.drew | (with_reducible refine DBox.newAt ?_ ?_ <;> first | (simp; done) | rfl) | with_reducible apply DBox.alloc)) b)
    have K4 : Hid (DBox _ (w2.heap.size) (⟨31, s1, n1, .slice pa m ca⟩)) := Lib.hid (DBox.below (by repeat (first | with_reducible exact K4.out | with_reducible apply DBox.drewN | with_reducible apply DBox.drew | (with_reducible refine DBox.newAt ?_ ?_ <;> first | (simp; done) | rfl) | with_reducible apply DBox.alloc)) b)
    have K6 : Hid (DBox _ (w3.heap.size) (⟨31, s, nx, .slice p2 n c2⟩)) := Lib.hid (DBox.below (by repeat (first | with_reducible exact K6.out | with_reducible apply DBox.drewN | with_reducible apply DBox.drew | (with_reducible refine DBox.newAt ?_ ?_ <;> first | (simp; done) | rfl) | with_reducible apply DBox.alloc)) b)
    have K7 : Hid (DBox _ (w4.heap.size) (⟨31, s1, n1, .slice pb m cb⟩)) := Lib.hid (DBox.below (by repeat (first | with_reducible exact K7.out | with_reducible apply DBox.drewN | with_reducible apply DBox.drew | (with_reducible refine DBox.newAt ?_ ?_ <;> first | (simp; done) | rfl) | with_reducible apply DBox.alloc)) b)
    try clear k0a k0b k0c k0d k0z
    have k0z := K0.out.lt
    obtain ⟨k0a, k0b, k0c, k0d⟩ := K0.out.cell
    try clear k4a k4b k4c k4d k4z
    have k4z := K4.out.lt
    obtain ⟨k4a, k4b, k4c, k4d⟩ := K4.out.cell
    try clear k6a k6b k6c k6d k6z
    have k6z := K6.out.lt
    obtain ⟨k6a, k6b, k6c, k6d⟩ := K6.out.cell
    try clear k7a k7b k7c k7d k7z
    have k7z := K7.out.lt
    obtain ⟨k7a, k7b, k7c, k7d⟩ := K7.out.cell
    clear b
    go_upto_region 10 with fail
    go_region_held3 (fun w' => w'.cell? ⟨w.heap.size, 0, none⟩ = some (.int .i64 s) ∧ w'.cell? ⟨w.heap.size, 1, none⟩ = some (.int .i64 nx) ∧ w'.cell? ⟨w.heap.size, 2, none⟩ = some (.slice p n c) ∧ w'.cell? ⟨w3.heap.size, 0, none⟩ = some (.int .i64 s) ∧ w'.cell? ⟨w3.heap.size, 1, none⟩ = some (.int .i64 nx) ∧ w'.cell? ⟨w3.heap.size, 2, none⟩ = some (.slice p2 n c2)) (first | exact ⟨k0a, k0b, k0c, k6a, k6b, k6c⟩ | go_keep) (first
      | (go_at_call 30; refine (to_deal s nx l p n c _ HN.out (by omega) (by repeat (first | with_reducible exact HR.out | with_reducible apply Rd.drewN | with_reducible apply Rd.drew | with_reducible apply Rd.alloc))).mono ?_; rintro e w6 ⟨p3, c3, rfl, o3, r3, hc3, b⟩; have T6 := Lib.hid b.size; have HB := Lib.hid (chain0 (w := w) (by repeat (first | with_reducible exact Below.refl _ _ | with_reducible exact HB.out | with_reducible apply Below.drew | with_reducible apply bdN | with_reducible refine Below.alloc ?_ (by first | exact Nat.le_refl _ | (simp; done) | (simp; omega) | (have := HB.out.size; simp at *; omega)) _ | with_reducible refine Below.setCell ?_ (by first | exact Nat.le_refl _ | (simp; done) | (simp; omega) | (have := HB.out.size; simp at *; omega)) _)) b); have HR := Lib.hid (Rd.below (by repeat (first | with_reducible exact HR.out | with_reducible apply Rd.drewN | with_reducible apply Rd.drew | with_reducible apply Rd.alloc)) b); have Oa := Lib.hid (Own.below (by repeat (first | with_reducible exact Oa.out | with_reducible apply Own.drewN | with_reducible apply Own.drew | with_reducible apply Own.alloc)) b); have Ra := Lib.hid (Rd.below (by repeat (first | with_reducible exact Ra.out | with_reducible apply Rd.drewN | with_reducible apply Rd.drew | with_reducible apply Rd.alloc)) b); have O2 := Lib.hid (Own.below (by repeat (first | with_reducible exact O2.out | with_reducible apply Own.drewN | with_reducible apply Own.drew | with_reducible apply Own.alloc)) b); have R2 := Lib.hid (Rd.below (by repeat (first | with_reducible exact R2.out | with_reducible apply Rd.drewN | with_reducible apply Rd.drew | with_reducible apply Rd.alloc)) b); have Ob := Lib.hid (Own.below (by repeat (first | with_reducible exact Ob.out | with_reducible apply Own.drewN | with_reducible apply Own.drew | with_reducible apply Own.alloc)) b); have Rb := Lib.hid (Rd.below (by repeat (first | with_reducible exact Rb.out | with_reducible apply Rd.drewN | with_reducible apply Rd.drew | with_reducible apply Rd.alloc)) b); have K0 : Hid (DBox _ (w.heap.size) (⟨36, s, nx, .slice p n c⟩)) := Lib.hid (DBox.below (by repeat (first | with_reducible exact K0.out | with_reducible apply DBox.drewN | with_reducible apply DBox.drew | (with_reducible refine DBox.newAt ?_ ?_ <;> first | (simp; done) | rfl) | with_reducible apply DBox.alloc)) b); have K4 : Hid (DBox _ (w2.heap.size) (⟨31, s1, n1, .slice pa m ca⟩)) := Lib.hid (DBox.below (by repeat (first | with_reducible exact K4.out | with_reducible apply DBox.drewN | with_reducible apply DBox.drew | (with_reducible refine DBox.newAt ?_ ?_ <;> first | (simp; done) | rfl) | with_reducible apply DBox.alloc)) b); have K6 : Hid (DBox _ (w3.heap.size) (⟨31, s, nx, .slice p2 n c2⟩)) := Lib.hid (DBox.below (by repeat (first | with_reducible exact K6.out | with_reducible apply DBox.drewN | with_reducible apply DBox.drew | (with_reducible refine DBox.newAt ?_ ?_ <;> first | (simp; done) | rfl) | with_reducible apply DBox.alloc)) b); have K7 : Hid (DBox _ (w4.heap.size) (⟨31, s1, n1, .slice pb m cb⟩)) := Lib.hid (DBox.below (by repeat (first | with_reducible exact K7.out | with_reducible apply DBox.drewN | with_reducible apply DBox.drew | (with_reducible refine DBox.newAt ?_ ?_ <;> first | (simp; done) | rfl) | with_reducible apply DBox.alloc)) b); obtain ⟨k0a, k0b, k0c, k0d⟩ := K0.out.cell; have k0z := K0.out.lt; obtain ⟨k4a, k4b, k4c, k4d⟩ := K4.out.cell; have k4z := K4.out.lt; obtain ⟨k6a, k6b, k6c, k6d⟩ := K6.out.cell; have k6z := K6.out.lt; obtain ⟨k7a, k7b, k7c, k7d⟩ := K7.out.cell; have k7z := K7.out.lt; have R3 := Lib.hid r3; clear b r3 o3)
      | (go_at_call 25; refine (eq_deal s nx l p2 p3 n c2 c3 _ HN.out (by omega) (by repeat (first | with_reducible exact R2.out | with_reducible apply Rd.drewN | with_reducible apply Rd.drew | with_reducible apply Rd.alloc)) (by repeat (first | with_reducible exact R3.out | with_reducible apply Rd.drewN | with_reducible apply Rd.drew | with_reducible apply Rd.alloc))).mono ?_; rintro e w7 ⟨rfl, b⟩; have T7 := Lib.hid b.size; have HB := Lib.hid (chain0 (w := w) (by repeat (first | with_reducible exact Below.refl _ _ | with_reducible exact HB.out | with_reducible apply Below.drew | with_reducible apply bdN | with_reducible refine Below.alloc ?_ (by first | exact Nat.le_refl _ | (simp; done) | (simp; omega) | (have := HB.out.size; simp at *; omega)) _ | with_reducible refine Below.setCell ?_ (by first | exact Nat.le_refl _ | (simp; done) | (simp; omega) | (have := HB.out.size; simp at *; omega)) _)) b); have HR := Lib.hid (Rd.below (by repeat (first | with_reducible exact HR.out | with_reducible apply Rd.drewN | with_reducible apply Rd.drew | with_reducible apply Rd.alloc)) b); have Oa := Lib.hid (Own.below (by repeat (first | with_reducible exact Oa.out | with_reducible apply Own.drewN | with_reducible apply Own.drew | with_reducible apply Own.alloc)) b); have Ra := Lib.hid (Rd.below (by repeat (first | with_reducible exact Ra.out | with_reducible apply Rd.drewN | with_reducible apply Rd.drew | with_reducible apply Rd.alloc)) b); have O2 := Lib.hid (Own.below (by repeat (first | with_reducible exact O2.out | with_reducible apply Own.drewN | with_reducible apply Own.drew | with_reducible apply Own.alloc)) b); have R2 := Lib.hid (Rd.below (by repeat (first | with_reducible exact R2.out | with_reducible apply Rd.drewN | with_reducible apply Rd.drew | with_reducible apply Rd.alloc)) b); have Ob := Lib.hid (Own.below (by repeat (first | with_reducible exact Ob.out | with_reducible apply Own.drewN | with_reducible apply Own.drew | with_reducible apply Own.alloc)) b); have Rb := Lib.hid (Rd.below (by repeat (first | with_reducible exact Rb.out | with_reducible apply Rd.drewN | with_reducible apply Rd.drew | with_reducible apply Rd.alloc)) b); have K0 : Hid (DBox _ (w.heap.size) (⟨36, s, nx, .slice p n c⟩)) := Lib.hid (DBox.below (by repeat (first | with_reducible exact K0.out | with_reducible apply DBox.drewN | with_reducible apply DBox.drew | (with_reducible refine DBox.newAt ?_ ?_ <;> first | (simp; done) | rfl) | with_reducible apply DBox.alloc)) b); have K4 : Hid (DBox _ (w2.heap.size) (⟨31, s1, n1, .slice pa m ca⟩)) := Lib.hid (DBox.below (by repeat (first | with_reducible exact K4.out | with_reducible apply DBox.drewN | with_reducible apply DBox.drew | (with_reducible refine DBox.newAt ?_ ?_ <;> first | (simp; done) | rfl) | with_reducible apply DBox.alloc)) b); have K6 : Hid (DBox _ (w3.heap.size) (⟨31, s, nx, .slice p2 n c2⟩)) := Lib.hid (DBox.below (by repeat (first | with_reducible exact K6.out | with_reducible apply DBox.drewN | with_reducible apply DBox.drew | (with_reducible refine DBox.newAt ?_ ?_ <;> first | (simp; done) | rfl) | with_reducible apply DBox.alloc)) b); have K7 : Hid (DBox _ (w4.heap.size) (⟨31, s1, n1, .slice pb m cb⟩)) := Lib.hid (DBox.below (by repeat (first | with_reducible exact K7.out | with_reducible apply DBox.drewN | with_reducible apply DBox.drew | (with_reducible refine DBox.newAt ?_ ?_ <;> first | (simp; done) | rfl) | with_reducible apply DBox.alloc)) b); obtain ⟨k0a, k0b, k0c, k0d⟩ := K0.out.cell; have k0z := K0.out.lt; obtain ⟨k4a, k4b, k4c, k4d⟩ := K4.out.cell; have k4z := K4.out.lt; obtain ⟨k6a, k6b, k6c, k6d⟩ := K6.out.cell; have k6z := K6.out.lt; obtain ⟨k7a, k7b, k7c, k7d⟩ := K7.out.cell; have k7z := K7.out.lt; clear b))
    have Sw6 : Hid (w5.heap.size ≤ w6.heap.size) := Lib.hid (by have h := T6.out; simpa using h)
    have Sw7 : Hid (w6.heap.size ≤ w7.heap.size) := Lib.hid (by have h := T7.out; simpa using h)
    go_wp2_with fail
    refine ((mark_deal s nx l (.slice p2 n c2) _ 1 n _ HN.out (by omega) (by have := Sw3.out; have := Sw3b.out; have := Sw4.out; have := Sw5.out; have := Sw6.out; have := Sw7.out; omega) O2.out)).mono ?_
    rintro e w8 ⟨rfl, oM, gM⟩
    have Sw8 := Lib.hid gM.size
    have HB := Lib.hid (Below.grown HB.out gM HB.out.size (fun k hk => Nat.le_trans (by have h0 := Sw0.out; have h1 := Sw0.out; have h2 := Yw1K0.out; have h3 := Zw1.out; have h4 := Sw1.out; have h5 := Yw2K0.out; have h6 := Zw2.out; have h7 := Sw2.out; have h8 := Sw2b.out; have h9 := Yw3K0.out; have h10 := Yw3K4.out; have h11 := Zw3.out; have h12 := Sw3.out; have h13 := Sw3b.out; have h14 := Yw4K0.out; have h15 := Yw4K4.out; have h16 := Yw4K6.out; have h17 := Zw4.out; have h18 := Sw4.out; have h19 := Sw4b.out; have h20 := Sw5.out; first | omega | (simp at *; omega)) (L2.out k hk).1))
    have HR := Lib.hid (Rd.below HR0.out HB.out)
    have Oa := Lib.hid (Own.stay Oa.out gM La.out L2.out (by have h0 := Sw0.out; have h1 := Sw0.out; have h2 := Yw1K0.out; have h3 := Zw1.out; have h4 := Sw1.out; have h5 := Yw2K0.out; have h6 := Zw2.out; have h7 := Sw2.out; have h8 := Sw2b.out; have h9 := Yw3K0.out; have h10 := Yw3K4.out; have h11 := Zw3.out; have h12 := Sw3.out; have h13 := Sw3b.out; have h14 := Yw4K0.out; have h15 := Yw4K4.out; have h16 := Yw4K6.out; have h17 := Zw4.out; have h18 := Sw4.out; have h19 := Sw4b.out; have h20 := Sw5.out; first | omega | (simp at *; omega)))
    have Ob := Lib.hid (Own.stay Ob.out gM Lb.out L2.out (by have h0 := Sw0.out; have h1 := Sw0.out; have h2 := Yw1K0.out; have h3 := Zw1.out; have h4 := Sw1.out; have h5 := Yw2K0.out; have h6 := Zw2.out; have h7 := Sw2.out; have h8 := Sw2b.out; have h9 := Yw3K0.out; have h10 := Yw3K4.out; have h11 := Zw3.out; have h12 := Sw3.out; have h13 := Sw3b.out; have h14 := Yw4K0.out; have h15 := Yw4K4.out; have h16 := Yw4K6.out; have h17 := Zw4.out; have h18 := Sw4.out; have h19 := Sw4b.out; have h20 := Sw5.out; first | omega | (simp at *; omega)))
    have O2 := Lib.hid oM
    have Ra := Lib.hid (Own.rd Oa.out)
    have Rb := Lib.hid (Own.rd Ob.out)
    have K0 : Hid (DBox _ (w.heap.size) (⟨36, s, nx, .slice p n c⟩)) := Lib.hid (DBox.markedN K0.out gM (fun k hk => by have q1 := (L2.out k hk).1; have q2 := (L2.out k hk).2; have h0 := Sw0.out; have h1 := Sw0.out; have h2 := Yw1K0.out; have h3 := Zw1.out; have h4 := Sw1.out; have h5 := Yw2K0.out; have h6 := Zw2.out; have h7 := Sw2.out; have h8 := Sw2b.out; have h9 := Yw3K0.out; have h10 := Yw3K4.out; have h11 := Zw3.out; have h12 := Sw3.out; have h13 := Sw3b.out; have h14 := Yw4K0.out; have h15 := Yw4K4.out; have h16 := Yw4K6.out; have h17 := Zw4.out; have h18 := Sw4.out; have h19 := Sw4b.out; have h20 := Sw5.out; first | omega | (simp at *; omega)))
    try clear k0a k0b k0c k0d k0z
    have k0z := K0.out.lt
    obtain ⟨k0a, k0b, k0c, k0d⟩ := K0.out.cell
    have K4 : Hid (DBox _ (w2.heap.size) (⟨31, s1, n1, .slice pa m ca⟩)) := Lib.hid (DBox.markedN K4.out gM (fun k hk => by have q1 := (L2.out k hk).1; have q2 := (L2.out k hk).2; have h0 := Sw0.out; have h1 := Sw0.out; have h2 := Yw1K0.out; have h3 := Zw1.out; have h4 := Sw1.out; have h5 := Yw2K0.out; have h6 := Zw2.out; have h7 := Sw2.out; have h8 := Sw2b.out; have h9 := Yw3K0.out; have h10 := Yw3K4.out; have h11 := Zw3.out; have h12 := Sw3.out; have h13 := Sw3b.out; have h14 := Yw4K0.out; have h15 := Yw4K4.out; have h16 := Yw4K6.out; have h17 := Zw4.out; have h18 := Sw4.out; have h19 := Sw4b.out; have h20 := Sw5.out; first | omega | (simp at *; omega)))
    try clear k4a k4b k4c k4d k4z
    have k4z := K4.out.lt
    obtain ⟨k4a, k4b, k4c, k4d⟩ := K4.out.cell
    have K6 : Hid (DBox _ (w3.heap.size) (⟨31, s, nx, .slice p2 n c2⟩)) := Lib.hid (DBox.markedN K6.out gM (fun k hk => by have q1 := (L2.out k hk).1; have q2 := (L2.out k hk).2; have h0 := Sw0.out; have h1 := Sw0.out; have h2 := Yw1K0.out; have h3 := Zw1.out; have h4 := Sw1.out; have h5 := Yw2K0.out; have h6 := Zw2.out; have h7 := Sw2.out; have h8 := Sw2b.out; have h9 := Yw3K0.out; have h10 := Yw3K4.out; have h11 := Zw3.out; have h12 := Sw3.out; have h13 := Sw3b.out; have h14 := Yw4K0.out; have h15 := Yw4K4.out; have h16 := Yw4K6.out; have h17 := Zw4.out; have h18 := Sw4.out; have h19 := Sw4b.out; have h20 := Sw5.out; first | omega | (simp at *; omega)))
    try clear k6a k6b k6c k6d k6z
    have k6z := K6.out.lt
    obtain ⟨k6a, k6b, k6c, k6d⟩ := K6.out.cell
    have K7 : Hid (DBox _ (w4.heap.size) (⟨31, s1, n1, .slice pb m cb⟩)) := Lib.hid (DBox.markedN K7.out gM (fun k hk => by have q1 := (L2.out k hk).1; have q2 := (L2.out k hk).2; have h0 := Sw0.out; have h1 := Sw0.out; have h2 := Yw1K0.out; have h3 := Zw1.out; have h4 := Sw1.out; have h5 := Yw2K0.out; have h6 := Zw2.out; have h7 := Sw2.out; have h8 := Sw2b.out; have h9 := Yw3K0.out; have h10 := Yw3K4.out; have h11 := Zw3.out; have h12 := Sw3.out; have h13 := Sw3b.out; have h14 := Yw4K0.out; have h15 := Yw4K4.out; have h16 := Yw4K6.out; have h17 := Zw4.out; have h18 := Sw4.out; have h19 := Sw4b.out; have h20 := Sw5.out; first | omega | (simp at *; omega)))
    try clear k7a k7b k7c k7d k7z
    have k7z := K7.out.lt
    obtain ⟨k7a, k7b, k7c, k7d⟩ := K7.out.cell
    clear oM gM
    go_wp2_with fail
    refine ((eq_deal s1 n1 R pb pa m cb ca _ HMm.out (by have := HL.out; omega) Rb.out Ra.out)).mono ?_
    rintro e w9 ⟨rfl, b⟩
    have Sw9 := Lib.hid b.size
    have HB := Lib.hid (chain0 (w := w) (by repeat (first | with_reducible exact Below.refl _ _ | with_reducible exact HB.out | with_reducible apply Below.drew | with_reducible apply bdN | with_reducible refine Below.alloc ?_ (by first | exact Nat.le_refl _ | (simp; done) | (simp; omega) | (have := HB.out.size; simp at *; omega)) _ | with_reducible refine Below.setCell ?_ (by first | exact Nat.le_refl _ | (simp; done) | (simp; omega) | (have := HB.out.size; simp at *; omega)) _)) b)
    have HR := Lib.hid (Rd.below (by repeat (first | with_reducible exact HR.out | with_reducible apply Rd.drewN | with_reducible apply Rd.drew | with_reducible apply Rd.alloc)) b)
    have Oa := Lib.hid (Own.below (by repeat (first | with_reducible exact Oa.out | with_reducible apply Own.drewN | with_reducible apply Own.drew | with_reducible apply Own.alloc)) b)
    have O2 := Lib.hid (Own.below (by repeat (first | with_reducible exact O2.out | with_reducible apply Own.drewN | with_reducible apply Own.drew | with_reducible apply Own.alloc)) b)
    have Ob := Lib.hid (Own.below (by repeat (first | with_reducible exact Ob.out | with_reducible apply Own.drewN | with_reducible apply Own.drew | with_reducible apply Own.alloc)) b)
    have Ra := Lib.hid (Rd.below (by repeat (first | with_reducible exact Ra.out | with_reducible apply Rd.drewN | with_reducible apply Rd.drew | with_reducible apply Rd.alloc)) b)
    have Rb := Lib.hid (Rd.below (by repeat (first | with_reducible exact Rb.out | with_reducible apply Rd.drewN | with_reducible apply Rd.drew | with_reducible apply Rd.alloc)) b)
    have K0 : Hid (DBox _ (w.heap.size) (⟨36, s, nx, .slice p n c⟩)) := Lib.hid (DBox.below (by repeat (first | with_reducible exact K0.out | with_reducible apply DBox.drewN | with_reducible apply DBox.drew | (with_reducible refine DBox.newAt ?_ ?_ <;> first | (simp; done) | rfl) | with_reducible apply DBox.alloc)) b)
    have K4 : Hid (DBox _ (w2.heap.size) (⟨31, s1, n1, .slice pa m ca⟩)) := Lib.hid (DBox.below (by repeat (first | with_reducible exact K4.out | with_reducible apply DBox.drewN | with_reducible apply DBox.drew | (with_reducible refine DBox.newAt ?_ ?_ <;> first | (simp; done) | rfl) | with_reducible apply DBox.alloc)) b)
    have K6 : Hid (DBox _ (w3.heap.size) (⟨31, s, nx, .slice p2 n c2⟩)) := Lib.hid (DBox.below (by repeat (first | with_reducible exact K6.out | with_reducible apply DBox.drewN | with_reducible apply DBox.drew | (with_reducible refine DBox.newAt ?_ ?_ <;> first | (simp; done) | rfl) | with_reducible apply DBox.alloc)) b)
    have K7 : Hid (DBox _ (w4.heap.size) (⟨31, s1, n1, .slice pb m cb⟩)) := Lib.hid (DBox.below (by repeat (first | with_reducible exact K7.out | with_reducible apply DBox.drewN | with_reducible apply DBox.drew | (with_reducible refine DBox.newAt ?_ ?_ <;> first | (simp; done) | rfl) | with_reducible apply DBox.alloc)) b)
    try clear k0a k0b k0c k0d k0z
    have k0z := K0.out.lt
    obtain ⟨k0a, k0b, k0c, k0d⟩ := K0.out.cell
    try clear k4a k4b k4c k4d k4z
    have k4z := K4.out.lt
    obtain ⟨k4a, k4b, k4c, k4d⟩ := K4.out.cell
    try clear k6a k6b k6c k6d k6z
    have k6z := K6.out.lt
    obtain ⟨k6a, k6b, k6c, k6d⟩ := K6.out.cell
    try clear k7a k7b k7c k7d k7z
    have k7z := K7.out.lt
    obtain ⟨k7a, k7b, k7c, k7d⟩ := K7.out.cell
    clear b
    go_wp2_with fail
    refine ((mark_deal s1 n1 R (.slice pb m cb) _ 1 m _ HMm.out (by have := HL.out; omega) (by have := Sw4.out; have := Sw5.out; have := Sw6.out; have := Sw7.out; have := Sw8.out; have := Sw9.out; omega) Ob.out)).mono ?_
    rintro e w10 ⟨rfl, oM, gM⟩
    have Sw10 := Lib.hid gM.size
    have HB := Lib.hid (Below.grown HB.out gM HB.out.size (fun k hk => Nat.le_trans (by have h0 := Sw0.out; have h1 := Sw0.out; have h2 := Yw1K0.out; have h3 := Zw1.out; have h4 := Sw1.out; have h5 := Yw2K0.out; have h6 := Zw2.out; have h7 := Sw2.out; have h8 := Sw2b.out; have h9 := Yw3K0.out; have h10 := Yw3K4.out; have h11 := Zw3.out; have h12 := Sw3.out; have h13 := Sw3b.out; have h14 := Yw4K0.out; have h15 := Yw4K4.out; have h16 := Yw4K6.out; have h17 := Zw4.out; have h18 := Sw4.out; have h19 := Sw4b.out; have h20 := Sw5.out; have h21 := Sw8.out; have h22 := Sw9.out; first | omega | (simp at *; omega)) (Lb.out k hk).1))
    have HR := Lib.hid (Rd.below HR0.out HB.out)
    have Oa := Lib.hid (Own.stay Oa.out gM La.out Lb.out (by have h0 := Sw0.out; have h1 := Sw0.out; have h2 := Yw1K0.out; have h3 := Zw1.out; have h4 := Sw1.out; have h5 := Yw2K0.out; have h6 := Zw2.out; have h7 := Sw2.out; have h8 := Sw2b.out; have h9 := Yw3K0.out; have h10 := Yw3K4.out; have h11 := Zw3.out; have h12 := Sw3.out; have h13 := Sw3b.out; have h14 := Yw4K0.out; have h15 := Yw4K4.out; have h16 := Yw4K6.out; have h17 := Zw4.out; have h18 := Sw4.out; have h19 := Sw4b.out; have h20 := Sw5.out; have h21 := Sw8.out; have h22 := Sw9.out; first | omega | (simp at *; omega)))
    have Ob := Lib.hid oM
    have Ra := Lib.hid (Own.rd Oa.out)
    have K0 : Hid (DBox _ (w.heap.size) (⟨36, s, nx, .slice p n c⟩)) := Lib.hid (DBox.markedN K0.out gM (fun k hk => by have q1 := (Lb.out k hk).1; have q2 := (Lb.out k hk).2; have h0 := Sw0.out; have h1 := Sw0.out; have h2 := Yw1K0.out; have h3 := Zw1.out; have h4 := Sw1.out; have h5 := Yw2K0.out; have h6 := Zw2.out; have h7 := Sw2.out; have h8 := Sw2b.out; have h9 := Yw3K0.out; have h10 := Yw3K4.out; have h11 := Zw3.out; have h12 := Sw3.out; have h13 := Sw3b.out; have h14 := Yw4K0.out; have h15 := Yw4K4.out; have h16 := Yw4K6.out; have h17 := Zw4.out; have h18 := Sw4.out; have h19 := Sw4b.out; have h20 := Sw5.out; have h21 := Sw8.out; have h22 := Sw9.out; first | omega | (simp at *; omega)))
    try clear k0a k0b k0c k0d k0z
    have k0z := K0.out.lt
    obtain ⟨k0a, k0b, k0c, k0d⟩ := K0.out.cell
    have K4 : Hid (DBox _ (w2.heap.size) (⟨31, s1, n1, .slice pa m ca⟩)) := Lib.hid (DBox.markedN K4.out gM (fun k hk => by have q1 := (Lb.out k hk).1; have q2 := (Lb.out k hk).2; have h0 := Sw0.out; have h1 := Sw0.out; have h2 := Yw1K0.out; have h3 := Zw1.out; have h4 := Sw1.out; have h5 := Yw2K0.out; have h6 := Zw2.out; have h7 := Sw2.out; have h8 := Sw2b.out; have h9 := Yw3K0.out; have h10 := Yw3K4.out; have h11 := Zw3.out; have h12 := Sw3.out; have h13 := Sw3b.out; have h14 := Yw4K0.out; have h15 := Yw4K4.out; have h16 := Yw4K6.out; have h17 := Zw4.out; have h18 := Sw4.out; have h19 := Sw4b.out; have h20 := Sw5.out; have h21 := Sw8.out; have h22 := Sw9.out; first | omega | (simp at *; omega)))
    try clear k4a k4b k4c k4d k4z
    have k4z := K4.out.lt
    obtain ⟨k4a, k4b, k4c, k4d⟩ := K4.out.cell
    have K7 : Hid (DBox _ (w4.heap.size) (⟨31, s1, n1, .slice pb m cb⟩)) := Lib.hid (DBox.markedN K7.out gM (fun k hk => by have q1 := (Lb.out k hk).1; have q2 := (Lb.out k hk).2; have h0 := Sw0.out; have h1 := Sw0.out; have h2 := Yw1K0.out; have h3 := Zw1.out; have h4 := Sw1.out; have h5 := Yw2K0.out; have h6 := Zw2.out; have h7 := Sw2.out; have h8 := Sw2b.out; have h9 := Yw3K0.out; have h10 := Yw3K4.out; have h11 := Zw3.out; have h12 := Sw3.out; have h13 := Sw3b.out; have h14 := Yw4K0.out; have h15 := Yw4K4.out; have h16 := Yw4K6.out; have h17 := Zw4.out; have h18 := Sw4.out; have h19 := Sw4b.out; have h20 := Sw5.out; have h21 := Sw8.out; have h22 := Sw9.out; first | omega | (simp at *; omega)))
    try clear k7a k7b k7c k7d k7z
    have k7z := K7.out.lt
    obtain ⟨k7a, k7b, k7c, k7d⟩ := K7.out.cell
    clear oM gM
    go_wp2_with fail
    refine ((held_deal s1 n1 (.slice pb m cb) _ 1 m _ (by have := HL.out; omega) Ob.out)).mono ?_
    rintro e w11 ⟨rfl, b⟩
    have Sw11 := Lib.hid b.size
    have HB := Lib.hid (chain0 (w := w) (by repeat (first | with_reducible exact Below.refl _ _ | with_reducible exact HB.out | with_reducible apply Below.drew | with_reducible apply bdN | with_reducible refine Below.alloc ?_ (by first | exact Nat.le_refl _ | (simp; done) | (simp; omega) | (have := HB.out.size; simp at *; omega)) _ | with_reducible refine Below.setCell ?_ (by first | exact Nat.le_refl _ | (simp; done) | (simp; omega) | (have := HB.out.size; simp at *; omega)) _)) b)
    have HR := Lib.hid (Rd.below (by repeat (first | with_reducible exact HR.out | with_reducible apply Rd.drewN | with_reducible apply Rd.drew | with_reducible apply Rd.alloc)) b)
    have Oa := Lib.hid (Own.below (by repeat (first | with_reducible exact Oa.out | with_reducible apply Own.drewN | with_reducible apply Own.drew | with_reducible apply Own.alloc)) b)
    have Ob := Lib.hid (Own.below (by repeat (first | with_reducible exact Ob.out | with_reducible apply Own.drewN | with_reducible apply Own.drew | with_reducible apply Own.alloc)) b)
    have Ra := Lib.hid (Rd.below (by repeat (first | with_reducible exact Ra.out | with_reducible apply Rd.drewN | with_reducible apply Rd.drew | with_reducible apply Rd.alloc)) b)
    have K0 : Hid (DBox _ (w.heap.size) (⟨36, s, nx, .slice p n c⟩)) := Lib.hid (DBox.below (by repeat (first | with_reducible exact K0.out | with_reducible apply DBox.drewN | with_reducible apply DBox.drew | (with_reducible refine DBox.newAt ?_ ?_ <;> first | (simp; done) | rfl) | with_reducible apply DBox.alloc)) b)
    have K4 : Hid (DBox _ (w2.heap.size) (⟨31, s1, n1, .slice pa m ca⟩)) := Lib.hid (DBox.below (by repeat (first | with_reducible exact K4.out | with_reducible apply DBox.drewN | with_reducible apply DBox.drew | (with_reducible refine DBox.newAt ?_ ?_ <;> first | (simp; done) | rfl) | with_reducible apply DBox.alloc)) b)
    have K7 : Hid (DBox _ (w4.heap.size) (⟨31, s1, n1, .slice pb m cb⟩)) := Lib.hid (DBox.below (by repeat (first | with_reducible exact K7.out | with_reducible apply DBox.drewN | with_reducible apply DBox.drew | (with_reducible refine DBox.newAt ?_ ?_ <;> first | (simp; done) | rfl) | with_reducible apply DBox.alloc)) b)
    try clear k0a k0b k0c k0d k0z
    have k0z := K0.out.lt
    obtain ⟨k0a, k0b, k0c, k0d⟩ := K0.out.cell
    try clear k4a k4b k4c k4d k4z
    have k4z := K4.out.lt
    obtain ⟨k4a, k4b, k4c, k4d⟩ := K4.out.cell
    try clear k7a k7b k7c k7d k7z
    have k7z := K7.out.lt
    obtain ⟨k7a, k7b, k7c, k7d⟩ := K7.out.cell
    clear b
    have Yw12K0 := Lib.hid K0.out.lt
    have Yw12K4 := Lib.hid K4.out.lt
    have Yw12K7 := Lib.hid K7.out.lt
    go_wp2_with fail
    refine ((to_deal s nx l p n c _ HN.out (by omega) HR.out)).mono ?_
    rintro e w12 ⟨p4, c4, rfl, o4, r4, hc4, b⟩
    have Sw12 := Lib.hid b.size
    have L4 := Lib.hid o4.span
    have HB := Lib.hid (chain0 (w := w) (by repeat (first | with_reducible exact Below.refl _ _ | with_reducible exact HB.out | with_reducible apply Below.drew | with_reducible apply bdN | with_reducible refine Below.alloc ?_ (by first | exact Nat.le_refl _ | (simp; done) | (simp; omega) | (have := HB.out.size; simp at *; omega)) _ | with_reducible refine Below.setCell ?_ (by first | exact Nat.le_refl _ | (simp; done) | (simp; omega) | (have := HB.out.size; simp at *; omega)) _)) b)
    have Zw12 := Lib.hid HB.out.size
    have HR := Lib.hid (Rd.below (by repeat (first | with_reducible exact HR.out | with_reducible apply Rd.drewN | with_reducible apply Rd.drew | with_reducible apply Rd.alloc)) b)
    have Oa := Lib.hid (Own.below (by repeat (first | with_reducible exact Oa.out | with_reducible apply Own.drewN | with_reducible apply Own.drew | with_reducible apply Own.alloc)) b)
    have Ob := Lib.hid (Own.below (by repeat (first | with_reducible exact Ob.out | with_reducible apply Own.drewN | with_reducible apply Own.drew | with_reducible apply Own.alloc)) b)
    have Ra := Lib.hid (Rd.below (by repeat (first | with_reducible exact Ra.out | with_reducible apply Rd.drewN | with_reducible apply Rd.drew | with_reducible apply Rd.alloc)) b)
    have K0 : Hid (DBox _ (w.heap.size) (⟨36, s, nx, .slice p n c⟩)) := Lib.hid (DBox.below (by repeat (first | with_reducible exact K0.out | with_reducible apply DBox.drewN | with_reducible apply DBox.drew | (with_reducible refine DBox.newAt ?_ ?_ <;> first | (simp; done) | rfl) | with_reducible apply DBox.alloc)) b)
    have K4 : Hid (DBox _ (w2.heap.size) (⟨31, s1, n1, .slice pa m ca⟩)) := Lib.hid (DBox.below (by repeat (first | with_reducible exact K4.out | with_reducible apply DBox.drewN | with_reducible apply DBox.drew | (with_reducible refine DBox.newAt ?_ ?_ <;> first | (simp; done) | rfl) | with_reducible apply DBox.alloc)) b)
    have K7 : Hid (DBox _ (w4.heap.size) (⟨31, s1, n1, .slice pb m cb⟩)) := Lib.hid (DBox.below (by repeat (first | with_reducible exact K7.out | with_reducible apply DBox.drewN | with_reducible apply DBox.drew | (with_reducible refine DBox.newAt ?_ ?_ <;> first | (simp; done) | rfl) | with_reducible apply DBox.alloc)) b)
    try clear k0a k0b k0c k0d k0z
    have k0z := K0.out.lt
    obtain ⟨k0a, k0b, k0c, k0d⟩ := K0.out.cell
    try clear k4a k4b k4c k4d k4z
    have k4z := K4.out.lt
    obtain ⟨k4a, k4b, k4c, k4d⟩ := K4.out.cell
    try clear k7a k7b k7c k7d k7z
    have k7z := K7.out.lt
    obtain ⟨k7a, k7b, k7c, k7d⟩ := K7.out.cell
    have O4 := Lib.hid o4
    have R4 := Lib.hid r4
    clear b o4 r4
    have Yw13K0 := Lib.hid K0.out.lt
    have Yw13K4 := Lib.hid K4.out.lt
    have Yw13K7 := Lib.hid K7.out.lt
    go_wp2_with fail
    refine ((HI.out p4 n c4 _ _ HN.out (by omega) O4.out)).mono ?_
    rintro e w13 ⟨vc, rfl, oc, b⟩
    obtain ⟨pc, cc, rfl, hcc, rc, _⟩ := oc.form
    rw [HMm.out] at oc hcc ⊢
    have Sw13 := Lib.hid b.size
    have Lc := Lib.hid oc.span
    have HB := Lib.hid (chain0 (w := w) (by repeat (first | with_reducible exact Below.refl _ _ | with_reducible exact HB.out | with_reducible apply Below.drew | with_reducible apply bdN | with_reducible refine Below.alloc ?_ (by first | exact Nat.le_refl _ | (simp; done) | (simp; omega) | (have := HB.out.size; simp at *; omega)) _ | with_reducible refine Below.setCell ?_ (by first | exact Nat.le_refl _ | (simp; done) | (simp; omega) | (have := HB.out.size; simp at *; omega)) _)) b)
    have Zw13 := Lib.hid HB.out.size
    have HR := Lib.hid (Rd.below (by repeat (first | with_reducible exact HR.out | with_reducible apply Rd.drewN | with_reducible apply Rd.drew | with_reducible apply Rd.alloc)) b)
    have Oa := Lib.hid (Own.below (by repeat (first | with_reducible exact Oa.out | with_reducible apply Own.drewN | with_reducible apply Own.drew | with_reducible apply Own.alloc)) b)
    have Ob := Lib.hid (Own.below (by repeat (first | with_reducible exact Ob.out | with_reducible apply Own.drewN | with_reducible apply Own.drew | with_reducible apply Own.alloc)) b)
    have Ra := Lib.hid (Rd.below (by repeat (first | with_reducible exact Ra.out | with_reducible apply Rd.drewN | with_reducible apply Rd.drew | with_reducible apply Rd.alloc)) b)
    have O4 := Lib.hid (Own.below (by repeat (first | with_reducible exact O4.out | with_reducible apply Own.drewN | with_reducible apply Own.drew | with_reducible apply Own.alloc)) b)
    have R4 := Lib.hid (Rd.below (by repeat (first | with_reducible exact R4.out | with_reducible apply Rd.drewN | with_reducible apply Rd.drew | with_reducible apply Rd.alloc)) b)
    have K0 : Hid (DBox _ (w.heap.size) (⟨36, s, nx, .slice p n c⟩)) := Lib.hid (DBox.below (by repeat (first | with_reducible exact K0.out | with_reducible apply DBox.drewN | with_reducible apply DBox.drew | (with_reducible refine DBox.newAt ?_ ?_ <;> first | (simp; done) | rfl) | with_reducible apply DBox.alloc)) b)
    have K4 : Hid (DBox _ (w2.heap.size) (⟨31, s1, n1, .slice pa m ca⟩)) := Lib.hid (DBox.below (by repeat (first | with_reducible exact K4.out | with_reducible apply DBox.drewN | with_reducible apply DBox.drew | (with_reducible refine DBox.newAt ?_ ?_ <;> first | (simp; done) | rfl) | with_reducible apply DBox.alloc)) b)
    have K7 : Hid (DBox _ (w4.heap.size) (⟨31, s1, n1, .slice pb m cb⟩)) := Lib.hid (DBox.below (by repeat (first | with_reducible exact K7.out | with_reducible apply DBox.drewN | with_reducible apply DBox.drew | (with_reducible refine DBox.newAt ?_ ?_ <;> first | (simp; done) | rfl) | with_reducible apply DBox.alloc)) b)
    try clear k0a k0b k0c k0d k0z
    have k0z := K0.out.lt
    obtain ⟨k0a, k0b, k0c, k0d⟩ := K0.out.cell
    try clear k4a k4b k4c k4d k4z
    have k4z := K4.out.lt
    obtain ⟨k4a, k4b, k4c, k4d⟩ := K4.out.cell
    try clear k7a k7b k7c k7d k7z
    have k7z := K7.out.lt
    obtain ⟨k7a, k7b, k7c, k7d⟩ := K7.out.cell
    have Oc := Lib.hid oc
    have Rc := Lib.hid rc
    clear b oc rc
    go_upto_region 25 with fail
    obtain ⟨w13b, ew, b⟩ : ∃ w1 : World, w1 = (w13.alloc (Dv.mk 31 s1 n1 (.slice pc m cc)).obj) ∧ Below ((w13.alloc (Dv.mk 31 s1 n1 (.slice pc m cc)).obj)).heap.size ((w13.alloc (Dv.mk 31 s1 n1 (.slice pc m cc)).obj)) w1 := ⟨_, rfl, Below.refl _ _⟩
    rw [← ew]
    clear ew
    have Sw13b := Lib.hid b.size
    have HB := Lib.hid (chain0 (w := w) (by repeat (first | with_reducible exact Below.refl _ _ | with_reducible exact HB.out | with_reducible apply Below.drew | with_reducible apply bdN | with_reducible refine Below.alloc ?_ (by first | exact Nat.le_refl _ | (simp; done) | (simp; omega) | (have := HB.out.size; simp at *; omega)) _ | with_reducible refine Below.setCell ?_ (by first | exact Nat.le_refl _ | (simp; done) | (simp; omega) | (have := HB.out.size; simp at *; omega)) _)) b)
    have HR := Lib.hid (Rd.below (by repeat (first | with_reducible exact HR.out | with_reducible apply Rd.drewN | with_reducible apply Rd.drew | with_reducible apply Rd.alloc)) b)
    have Oa := Lib.hid (Own.below (by repeat (first | with_reducible exact Oa.out | with_reducible apply Own.drewN | with_reducible apply Own.drew | with_reducible apply Own.alloc)) b)
    have Ob := Lib.hid (Own.below (by repeat (first | with_reducible exact Ob.out | with_reducible apply Own.drewN | with_reducible apply Own.drew | with_reducible apply Own.alloc)) b)
    have Ra := Lib.hid (Rd.below (by repeat (first | with_reducible exact Ra.out | with_reducible apply Rd.drewN | with_reducible apply Rd.drew | with_reducible apply Rd.alloc)) b)
    have O4 := Lib.hid (Own.below (by repeat (first | with_reducible exact O4.out | with_reducible apply Own.drewN | with_reducible apply Own.drew | with_reducible apply Own.alloc)) b)
    have R4 := Lib.hid (Rd.below (by repeat (first | with_reducible exact R4.out | with_reducible apply Rd.drewN | with_reducible apply Rd.drew | with_reducible apply Rd.alloc)) b)
    have Oc := Lib.hid (Own.below (by repeat (first | with_reducible exact Oc.out | with_reducible apply Own.drewN | with_reducible apply Own.drew | with_reducible apply Own.alloc)) b)
    have Rc := Lib.hid (Rd.below (by repeat (first | with_reducible exact Rc.out | with_reducible apply Rd.drewN | with_reducible apply Rd.drew | with_reducible apply Rd.alloc)) b)
    have K0 : Hid (DBox _ (w.heap.size) (⟨36, s, nx, .slice p n c⟩)) := Lib.hid (DBox.below (by repeat (first | with_reducible exact K0.out | with_reducible apply DBox.drewN | with_reducible apply DBox.drew | (with_reducible refine DBox.newAt ?_ ?_ <;> first | (simp; done) | rfl) | with_reducible apply DBox.alloc)) b)
    have K4 : Hid (DBox _ (w2.heap.size) (⟨31, s1, n1, .slice pa m ca⟩)) := Lib.hid (DBox.below (by repeat (first | with_reducible exact K4.out | with_reducible apply DBox.drewN | with_reducible apply DBox.drew | (with_reducible refine DBox.newAt ?_ ?_ <;> first | (simp; done) | rfl) | with_reducible apply DBox.alloc)) b)
    have K7 : Hid (DBox _ (w4.heap.size) (⟨31, s1, n1, .slice pb m cb⟩)) := Lib.hid (DBox.below (by repeat (first | with_reducible exact K7.out | with_reducible apply DBox.drewN | with_reducible apply DBox.drew | (with_reducible refine DBox.newAt ?_ ?_ <;> first | (simp; done) | rfl) | with_reducible apply DBox.alloc)) b)
    have K12 : Hid (DBox _ (w13.heap.size) (⟨31, s1, n1, .slice pc m cc⟩)) := Lib.hid (DBox.below (by repeat (first | with_reducible exact K12.out | with_reducible apply DBox.drewN | with_reducible apply DBox.drew | (with_reducible refine DBox.newAt ?_ ?_ <;> first | (simp; done) | rfl) | with_reducible apply DBox.alloc)) b)
    try clear k0a k0b k0c k0d k0z
    have k0z := K0.out.lt
    obtain ⟨k0a, k0b, k0c, k0d⟩ := K0.out.cell
    try clear k4a k4b k4c k4d k4z
    have k4z := K4.out.lt
    obtain ⟨k4a, k4b, k4c, k4d⟩ := K4.out.cell
    try clear k7a k7b k7c k7d k7z
    have k7z := K7.out.lt
    obtain ⟨k7a, k7b, k7c, k7d⟩ := K7.out.cell
    try clear k12a k12b k12c k12d k12z
    have k12z := K12.out.lt
    obtain ⟨k12a, k12b, k12c, k12d⟩ := K12.out.cell
    clear b
    go_wp2_with fail
    refine ((eq_deal s1 n1 R pc pa m cc ca _ HMm.out (by have := HL.out; omega) Rc.out Ra.out)).mono ?_
    rintro e w14 ⟨rfl, b⟩
    have Sw14 := Lib.hid b.size
    have HB := Lib.hid (chain0 (w := w) (by repeat (first | with_reducible exact Below.refl _ _ | with_reducible exact HB.out | with_reducible apply Below.drew | with_reducible apply bdN | with_reducible refine Below.alloc ?_ (by first | exact Nat.le_refl _ | (simp; done) | (simp; omega) | (have := HB.out.size; simp at *; omega)) _ | with_reducible refine Below.setCell ?_ (by first | exact Nat.le_refl _ | (simp; done) | (simp; omega) | (have := HB.out.size; simp at *; omega)) _)) b)
    have HR := Lib.hid (Rd.below (by repeat (first | with_reducible exact HR.out | with_reducible apply Rd.drewN | with_reducible apply Rd.drew | with_reducible apply Rd.alloc)) b)
    have Oa := Lib.hid (Own.below (by repeat (first | with_reducible exact Oa.out | with_reducible apply Own.drewN | with_reducible apply Own.drew | with_reducible apply Own.alloc)) b)
    have Ob := Lib.hid (Own.below (by repeat (first | with_reducible exact Ob.out | with_reducible apply Own.drewN | with_reducible apply Own.drew | with_reducible apply Own.alloc)) b)
    have Ra := Lib.hid (Rd.below (by repeat (first | with_reducible exact Ra.out | with_reducible apply Rd.drewN | with_reducible apply Rd.drew | with_reducible apply Rd.alloc)) b)
    have O4 := Lib.hid (Own.below (by repeat (first | with_reducible exact O4.out | with_reducible apply Own.drewN | with_reducible apply Own.drew | with_reducible apply Own.alloc)) b)
    have R4 := Lib.hid (Rd.below (by repeat (first | with_reducible exact R4.out | with_reducible apply Rd.drewN | with_reducible apply Rd.drew | with_reducible apply Rd.alloc)) b)
    have Oc := Lib.hid (Own.below (by repeat (first | with_reducible exact Oc.out | with_reducible apply Own.drewN | with_reducible apply Own.drew | with_reducible apply Own.alloc)) b)
    have Rc := Lib.hid (Rd.below (by repeat (first | with_reducible exact Rc.out | with_reducible apply Rd.drewN | with_reducible apply Rd.drew | with_reducible apply Rd.alloc)) b)
    have K0 : Hid (DBox _ (w.heap.size) (⟨36, s, nx, .slice p n c⟩)) := Lib.hid (DBox.below (by repeat (first | with_reducible exact K0.out | with_reducible apply DBox.drewN | with_reducible apply DBox.drew | (with_reducible refine DBox.newAt ?_ ?_ <;> first | (simp; done) | rfl) | with_reducible apply DBox.alloc)) b)
    have K4 : Hid (DBox _ (w2.heap.size) (⟨31, s1, n1, .slice pa m ca⟩)) := Lib.hid (DBox.below (by repeat (first | with_reducible exact K4.out | with_reducible apply DBox.drewN | with_reducible apply DBox.drew | (with_reducible refine DBox.newAt ?_ ?_ <;> first | (simp; done) | rfl) | with_reducible apply DBox.alloc)) b)
    have K7 : Hid (DBox _ (w4.heap.size) (⟨31, s1, n1, .slice pb m cb⟩)) := Lib.hid (DBox.below (by repeat (first | with_reducible exact K7.out | with_reducible apply DBox.drewN | with_reducible apply DBox.drew | (with_reducible refine DBox.newAt ?_ ?_ <;> first | (simp; done) | rfl) | with_reducible apply DBox.alloc)) b)
    have K12 : Hid (DBox _ (w13.heap.size) (⟨31, s1, n1, .slice pc m cc⟩)) := Lib.hid (DBox.below (by repeat (first | with_reducible exact K12.out | with_reducible apply DBox.drewN | with_reducible apply DBox.drew | (with_reducible refine DBox.newAt ?_ ?_ <;> first | (simp; done) | rfl) | with_reducible apply DBox.alloc)) b)
    try clear k0a k0b k0c k0d k0z
    have k0z := K0.out.lt
    obtain ⟨k0a, k0b, k0c, k0d⟩ := K0.out.cell
    try clear k4a k4b k4c k4d k4z
    have k4z := K4.out.lt
    obtain ⟨k4a, k4b, k4c, k4d⟩ := K4.out.cell
    try clear k7a k7b k7c k7d k7z
    have k7z := K7.out.lt
    obtain ⟨k7a, k7b, k7c, k7d⟩ := K7.out.cell
    try clear k12a k12b k12c k12d k12z
    have k12z := K12.out.lt
    obtain ⟨k12a, k12b, k12c, k12d⟩ := K12.out.cell
    clear b
    go_wp2_with fail
    refine ((held_deal s1 n1 (.slice pb m cb) _ 1 m _ (by have := HL.out; omega) Ob.out)).mono ?_
    rintro e w15 ⟨rfl, b⟩
    have Sw15 := Lib.hid b.size
    have HB := Lib.hid (chain0 (w := w) (by repeat (first | with_reducible exact Below.refl _ _ | with_reducible exact HB.out | with_reducible apply Below.drew | with_reducible apply bdN | with_reducible refine Below.alloc ?_ (by first | exact Nat.le_refl _ | (simp; done) | (simp; omega) | (have := HB.out.size; simp at *; omega)) _ | with_reducible refine Below.setCell ?_ (by first | exact Nat.le_refl _ | (simp; done) | (simp; omega) | (have := HB.out.size; simp at *; omega)) _)) b)
    have HR := Lib.hid (Rd.below (by repeat (first | with_reducible exact HR.out | with_reducible apply Rd.drewN | with_reducible apply Rd.drew | with_reducible apply Rd.alloc)) b)
    have Oa := Lib.hid (Own.below (by repeat (first | with_reducible exact Oa.out | with_reducible apply Own.drewN | with_reducible apply Own.drew | with_reducible apply Own.alloc)) b)
    have Ob := Lib.hid (Own.below (by repeat (first | with_reducible exact Ob.out | with_reducible apply Own.drewN | with_reducible apply Own.drew | with_reducible apply Own.alloc)) b)
    have Ra := Lib.hid (Rd.below (by repeat (first | with_reducible exact Ra.out | with_reducible apply Rd.drewN | with_reducible apply Rd.drew | with_reducible apply Rd.alloc)) b)
    have O4 := Lib.hid (Own.below (by repeat (first | with_reducible exact O4.out | with_reducible apply Own.drewN | with_reducible apply Own.drew | with_reducible apply Own.alloc)) b)
    have R4 := Lib.hid (Rd.below (by repeat (first | with_reducible exact R4.out | with_reducible apply Rd.drewN | with_reducible apply Rd.drew | with_reducible apply Rd.alloc)) b)
    have Oc := Lib.hid (Own.below (by repeat (first | with_reducible exact Oc.out | with_reducible apply Own.drewN | with_reducible apply Own.drew | with_reducible apply Own.alloc)) b)
    have Rc := Lib.hid (Rd.below (by repeat (first | with_reducible exact Rc.out | with_reducible apply Rd.drewN | with_reducible apply Rd.drew | with_reducible apply Rd.alloc)) b)
    have K0 : Hid (DBox _ (w.heap.size) (⟨36, s, nx, .slice p n c⟩)) := Lib.hid (DBox.below (by repeat (first | with_reducible exact K0.out | with_reducible apply DBox.drewN | with_reducible apply DBox.drew | (with_reducible refine DBox.newAt ?_ ?_ <;> first | (simp; done) | rfl) | with_reducible apply DBox.alloc)) b)
    have K4 : Hid (DBox _ (w2.heap.size) (⟨31, s1, n1, .slice pa m ca⟩)) := Lib.hid (DBox.below (by repeat (first | with_reducible exact K4.out | with_reducible apply DBox.drewN | with_reducible apply DBox.drew | (with_reducible refine DBox.newAt ?_ ?_ <;> first | (simp; done) | rfl) | with_reducible apply DBox.alloc)) b)
    have K7 : Hid (DBox _ (w4.heap.size) (⟨31, s1, n1, .slice pb m cb⟩)) := Lib.hid (DBox.below (by repeat (first | with_reducible exact K7.out | with_reducible apply DBox.drewN | with_reducible apply DBox.drew | (with_reducible refine DBox.newAt ?_ ?_ <;> first | (simp; done) | rfl) | with_reducible apply DBox.alloc)) b)
    have K12 : Hid (DBox _ (w13.heap.size) (⟨31, s1, n1, .slice pc m cc⟩)) := Lib.hid (DBox.below (by repeat (first | with_reducible exact K12.out | with_reducible apply DBox.drewN | with_reducible apply DBox.drew | (with_reducible refine DBox.newAt ?_ ?_ <;> first | (simp; done) | rfl) | with_reducible apply DBox.alloc)) b)
    try clear k0a k0b k0c k0d k0z
    have k0z := K0.out.lt
    obtain ⟨k0a, k0b, k0c, k0d⟩ := K0.out.cell
    try clear k4a k4b k4c k4d k4z
    have k4z := K4.out.lt
    obtain ⟨k4a, k4b, k4c, k4d⟩ := K4.out.cell
    try clear k7a k7b k7c k7d k7z
    have k7z := K7.out.lt
    obtain ⟨k7a, k7b, k7c, k7d⟩ := K7.out.cell
    try clear k12a k12b k12c k12d k12z
    have k12z := K12.out.lt
    obtain ⟨k12a, k12b, k12c, k12d⟩ := K12.out.cell
    clear b
    go_wp2_with fail
    go_ret
    exact ⟨rfl, by repeat (first | with_reducible exact Below.refl _ _ | with_reducible exact HB.out | with_reducible apply Below.drew | with_reducible apply bdN | with_reducible refine Below.alloc ?_ (by first | exact Nat.le_refl _ | (simp; done) | (simp; omega) | (have := HB.out.size; simp at *; omega)) _ | with_reducible refine Below.setCell ?_ (by first | exact Nat.le_refl _ | (simp; done) | (simp; omega) | (have := HB.out.size; simp at *; omega)) _)⟩

theorem own : ownKnob Try.prog.godebug = none := by kernel_rfl
theorem laidOut : laidOutB Try.prog = true := by kernel_rfl
set_option maxRecDepth 100000 in
set_option maxHeartbeats 1000000 in
theorem lifted (os : Os) (started : os.Started) (H : Type) (enc : TypeId × Value → H) :
    ReturnsInHanded {} Try.checked os 10 .any (Rows.fnExactLayMoreSpec.pre6 enc Try.prog Try.f10 Rows.fnExactLayMoreRow.domain false) (Rows.fnExactLayMoreSpec.post enc Try.prog Try.f10 false true false false) := by
  refine returnsInHanded_of_change (C := Try.checked) own started (by kernel_rfl) Try.func10
    (ChangeSpec.witness6 (enc := enc) (C := Try.checked) false ⟨#[], #[.agg #[.int .i64 0, .int .i64 0, .slice none 0 0]], []⟩ 8 (by kernel_rfl) (by kernel_rfl) (by kernel_rfl) (by kernel_rfl)) ?_
  intro W base args ds gs before hval0 hW hcnd _
  have hval : ∀ (j : Nat) t v, Try.f10.params[j]? = some t → args[j]? = some v → Value.okWide Try.prog W .any base t v := hval0
  have hW' := hW
  obtain ⟨p, q, hA0, hV, rfl, hfz, hnd⟩ := hW
  have hA : DataW.TrodAll enc Try.prog W 0 (fun _ => true) true Try.f10.params.toList args.toList ds p := hA0
  rw [Try.params10] at hA hval
  have hR := fun (W' : World) (hb : Below W.heap.size W W') => frame.still_all laidOut hb _ _ _ _ (by decide +kernel) hA
  obtain ⟨v0, vs0, d0, ds0, p0, q0, hargs, rfl, hp, h0, r0⟩ := trodAll_cons hA
  obtain ⟨rfl, rfl, hpn⟩ := trodAll_nil r0
  obtain rfl : args = #[v0] := by cases args; simp_all
  obtain ⟨rfl, rfl⟩ := trodVars_none hV
  obtain ⟨s0, x0, b0, n0, c0, l0, rfl, w0⟩ := frame.open_deal Try.underlying36 rfl rfl rfl rfl rfl rfl Try.underlying3 (by kernel_rfl) Try.underlying25 (by kernel_rfl) Try.underlying60 Try.underlying3 (by kernel_rfl) (by kernel_rfl) (by kernel_rfl) (hval 0 36 v0 rfl rfl) h0
  clear hA0 hval0
  simp only [List.append_nil] at hW'
  refine (walk s0 x0 b0 n0 c0 l0 W w0).mono fun e W' ⟨he, hw⟩ => ?_
  subst he
  exact ⟨_, rfl, _, _, _, [], p, [], hW', trodAll_mk1 (shut_bool Try.underlying4 _), hR W' hw, rfl, hw.frame _, fun h => by cases h⟩

theorem over : Rows.fnExactLayMoreRow.holds Try.pinned (OpenSpec.ofChange Rows.fnExactLayMoreSpec) :=
  OpenClaim.holds_of_wide 10 Try.f10 rfl rfl rfl rfl rfl rfl rfl ⟨rfl, rfl, rfl, rfl, rfl⟩ rfl rfl rfl rfl rfl (by kernel_rfl) Try.func10 (by kernel_rfl)
    (of_decide_eq_true (by kernel_rfl)) (by unfold Func.isWrapper; first | (rw [if_pos (by decide +kernel)]; kernel_rfl) | (rw [if_neg (by decide +kernel)]; exact ⟨rfl, rfl⟩))
    (fun os started H enc _ => lifted os started H enc)

theorem proved : Rows.FnExactLayMoreSaid := over
end Go.Proofs.Ytghjopgbhodccaa.lawLayMore