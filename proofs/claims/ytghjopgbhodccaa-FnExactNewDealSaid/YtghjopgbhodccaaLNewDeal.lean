/- FnExactNewDeal: for every number, a seed or not, the law returns true and its argument reads as before. No condition. -/
import Derived.Test.YtghjopgbhodccaaRows
import Derived.Test.YtghjopgbhodccaaFr
import Derived.Test.YtghjopgbhodccaaUa
import Derived.Test.YtghjopgbhodccaaIx
import Derived.Test.YtghjopgbhodccaaQw
namespace Go.Proofs.Ytghjopgbhodccaa.lawNewDeal
open Go.ChangeShapes Go.WideShapes Go.ChangeAt Go.RowKit
open Go.ChangeMaps (open_string shut_string)
open cards deal
set_option linter.unusedVariables false

set_option maxRecDepth 100000 in
set_option maxHeartbeats 4000000 in
theorem walk (s : Int) (w : World) (hw : (Lit.int .i64 s).wf = true) :
    Calls Try.prog 5 #[.int .i64 s] w fun e w' => e = .returned (.bool true) ∧ Below w.heap.size w w' := by
  have HL : Hid (((ndR s).1.l).length ≤ 100000000) := Lib.hid (Nat.le_trans (ndR_len s) (by omega))
  obtain ⟨R, hR⟩ : ∃ R, (ndR s).1.l = R := ⟨_, rfl⟩
  obtain ⟨ok, hok⟩ : ∃ ok, (ndR s).2 = ok := ⟨_, rfl⟩
  have HS := Lib.hid (fun w => spec_nd s w)
  have HI := Lib.hid (fun w => impl_nd s w)
  obtain ⟨s1, hs1⟩ : ∃ s1, (ndR s).1.s = s1 := ⟨_, rfl⟩
  obtain ⟨n1, hn1⟩ : ∃ n1, (ndR s).1.nx = n1 := ⟨_, rfl⟩
  rw [hR] at HL
  rw [hR, hok, hs1, hn1] at HS HI
  clear hR hok hs1 hn1
  obtain ⟨m, hm⟩ : ∃ m, R.length = m := ⟨_, rfl⟩
  have HMm := Lib.hid hm
  rw [hm] at HL
  clear hm
  go_enter Try.func5, Try.ntmps5
  go_wp2_with fail
  refine ((HS.out _)).mono ?_
  rintro e w2 ⟨va, rfl, oa, b⟩
  obtain ⟨pa, ca, rfl, hca, ra, _⟩ := oa.form
  rw [HMm.out] at oa hca ⊢
  have Sw2 := Lib.hid b.size
  have La := Lib.hid oa.span
  have HB := Lib.hid (chain0 (w := w) (by repeat (first | with_reducible exact Below.refl _ _ | with_reducible exact HB.out | with_reducible apply Below.drew | with_reducible apply bdN | with_reducible refine Below.alloc ?_ (by first | exact Nat.le_refl _ | (simp; done) | (simp; omega) | (have := HB.out.size; simp at *; omega)) _ | with_reducible refine Below.setCell ?_ (by first | exact Nat.le_refl _ | (simp; done) | (simp; omega) | (have := HB.out.size; simp at *; omega)) _)) b)
  have Zw2 := Lib.hid HB.out.size
  have Oa := Lib.hid oa
  have Ra := Lib.hid ra
  clear b oa ra
  go_upto_region 2 with fail
  obtain ⟨w2b, ew, b⟩ : ∃ w1 : World, w1 = (w2.alloc (Dv.mk 31 s1 n1 (.slice pa m ca)).obj) ∧ Below ((w2.alloc (Dv.mk 31 s1 n1 (.slice pa m ca)).obj)).heap.size ((w2.alloc (Dv.mk 31 s1 n1 (.slice pa m ca)).obj)) w1 := ⟨_, rfl, Below.refl _ _⟩
  rw [← ew]
  clear ew
  have Sw2b := Lib.hid b.size
  have HB := Lib.hid (chain0 (w := w) (by repeat (first | with_reducible exact Below.refl _ _ | with_reducible exact HB.out | with_reducible apply Below.drew | with_reducible apply bdN | with_reducible refine Below.alloc ?_ (by first | exact Nat.le_refl _ | (simp; done) | (simp; omega) | (have := HB.out.size; simp at *; omega)) _ | with_reducible refine Below.setCell ?_ (by first | exact Nat.le_refl _ | (simp; done) | (simp; omega) | (have := HB.out.size; simp at *; omega)) _)) b)
  have Oa := Lib.hid (Own.below (by repeat (first | with_reducible exact Oa.out | with_reducible apply Own.drewN | with_reducible apply Own.drew | with_reducible apply Own.alloc)) b)
  have Ra := Lib.hid (Rd.below (by repeat (first | with_reducible exact Ra.out | with_reducible apply Rd.drewN | with_reducible apply Rd.drew | with_reducible apply Rd.alloc)) b)
  have K3 : Hid (DBox _ (w2.heap.size) (⟨31, s1, n1, .slice pa m ca⟩)) := Lib.hid (DBox.below (by repeat (first | with_reducible exact K3.out | with_reducible apply DBox.drewN | with_reducible apply DBox.drew | (with_reducible refine DBox.newAt ?_ ?_ <;> first | (simp; done) | rfl) | with_reducible apply DBox.alloc)) b)
  try clear k3a k3b k3c k3d k3z
  have k3z := K3.out.lt
  obtain ⟨k3a, k3b, k3c, k3d⟩ := K3.out.cell
  clear b
  have Yw4K3 := Lib.hid K3.out.lt
  go_wp2_with fail
  refine ((HI.out _)).mono ?_
  rintro e w4 ⟨vb, rfl, ob, b⟩
  obtain ⟨pb, cb, rfl, hcb, rb, _⟩ := ob.form
  rw [HMm.out] at ob hcb ⊢
  have Sw4 := Lib.hid b.size
  have Lb := Lib.hid ob.span
  have HB := Lib.hid (chain0 (w := w) (by repeat (first | with_reducible exact Below.refl _ _ | with_reducible exact HB.out | with_reducible apply Below.drew | with_reducible apply bdN | with_reducible refine Below.alloc ?_ (by first | exact Nat.le_refl _ | (simp; done) | (simp; omega) | (have := HB.out.size; simp at *; omega)) _ | with_reducible refine Below.setCell ?_ (by first | exact Nat.le_refl _ | (simp; done) | (simp; omega) | (have := HB.out.size; simp at *; omega)) _)) b)
  have Zw4 := Lib.hid HB.out.size
  have Oa := Lib.hid (Own.below (by repeat (first | with_reducible exact Oa.out | with_reducible apply Own.drewN | with_reducible apply Own.drew | with_reducible apply Own.alloc)) b)
  have Ra := Lib.hid (Rd.below (by repeat (first | with_reducible exact Ra.out | with_reducible apply Rd.drewN | with_reducible apply Rd.drew | with_reducible apply Rd.alloc)) b)
  have K3 : Hid (DBox _ (w2.heap.size) (⟨31, s1, n1, .slice pa m ca⟩)) := Lib.hid (DBox.below (by repeat (first | with_reducible exact K3.out | with_reducible apply DBox.drewN | with_reducible apply DBox.drew | (with_reducible refine DBox.newAt ?_ ?_ <;> first | (simp; done) | rfl) | with_reducible apply DBox.alloc)) b)
  try clear k3a k3b k3c k3d k3z
  have k3z := K3.out.lt
  obtain ⟨k3a, k3b, k3c, k3d⟩ := K3.out.cell
  have Ob := Lib.hid ob
  have Rb := Lib.hid rb
  clear b ob rb
  go_upto_region 3 with fail
  obtain ⟨w4b, ew, b⟩ : ∃ w1 : World, w1 = (w4.alloc (Dv.mk 31 s1 n1 (.slice pb m cb)).obj) ∧ Below ((w4.alloc (Dv.mk 31 s1 n1 (.slice pb m cb)).obj)).heap.size ((w4.alloc (Dv.mk 31 s1 n1 (.slice pb m cb)).obj)) w1 := ⟨_, rfl, Below.refl _ _⟩
  rw [← ew]
  clear ew
  have Sw4b := Lib.hid b.size
  have HB := Lib.hid (chain0 (w := w) (by repeat (first | with_reducible exact Below.refl _ _ | with_reducible exact HB.out | with_reducible apply Below.drew | with_reducible apply bdN | with_reducible refine Below.alloc ?_ (by first | exact Nat.le_refl _ | (simp; done) | (simp; omega) | (have := HB.out.size; simp at *; omega)) _ | with_reducible refine Below.setCell ?_ (by first | exact Nat.le_refl _ | (simp; done) | (simp; omega) | (have := HB.out.size; simp at *; omega)) _)) b)
  have Oa := Lib.hid (Own.below (by repeat (first | with_reducible exact Oa.out | with_reducible apply Own.drewN | with_reducible apply Own.drew | with_reducible apply Own.alloc)) b)
  have Ra := Lib.hid (Rd.below (by repeat (first | with_reducible exact Ra.out | with_reducible apply Rd.drewN | with_reducible apply Rd.drew | with_reducible apply Rd.alloc)) b)
  have Ob := Lib.hid (Own.below (by repeat (first | with_reducible exact Ob.out | with_reducible apply Own.drewN | with_reducible apply Own.drew | with_reducible apply Own.alloc)) b)
  have Rb := Lib.hid (Rd.below (by repeat (first | with_reducible exact Rb.out | with_reducible apply Rd.drewN | with_reducible apply Rd.drew | with_reducible apply Rd.alloc)) b)
  have K3 : Hid (DBox _ (w2.heap.size) (⟨31, s1, n1, .slice pa m ca⟩)) := Lib.hid (DBox.below (by repeat (first | with_reducible exact K3.out | with_reducible apply DBox.drewN | with_reducible apply DBox.drew | (with_reducible refine DBox.newAt ?_ ?_ <;> first | (simp; done) | rfl) | with_reducible apply DBox.alloc)) b)
  have K5 : Hid (DBox _ (w4.heap.size) (⟨31, s1, n1, .slice pb m cb⟩)) := Lib.hid (DBox.below (by repeat (first | with_reducible exact K5.out | with_reducible apply DBox.drewN | with_reducible apply DBox.drew | (with_reducible refine DBox.newAt ?_ ?_ <;> first | (simp; done) | rfl) | with_reducible apply DBox.alloc)) b)
  try clear k3a k3b k3c k3d k3z
  have k3z := K3.out.lt
  obtain ⟨k3a, k3b, k3c, k3d⟩ := K3.out.cell
  try clear k5a k5b k5c k5d k5z
  have k5z := K5.out.lt
  obtain ⟨k5a, k5b, k5c, k5d⟩ := K5.out.cell
  clear b
  go_wp2_with fail
  refine ((eq_deal s1 n1 R pb pa m cb ca _ HMm.out (by have := HL.out; omega) Rb.out Ra.out)).mono ?_
  rintro e w5 ⟨rfl, b⟩
  have Sw5 := Lib.hid b.size
  have HB := Lib.hid (chain0 (w := w) (by repeat (first | with_reducible exact Below.refl _ _ | with_reducible exact HB.out | with_reducible apply Below.drew | with_reducible apply bdN | with_reducible refine Below.alloc ?_ (by first | exact Nat.le_refl _ | (simp; done) | (simp; omega) | (have := HB.out.size; simp at *; omega)) _ | with_reducible refine Below.setCell ?_ (by first | exact Nat.le_refl _ | (simp; done) | (simp; omega) | (have := HB.out.size; simp at *; omega)) _)) b)
  have Oa := Lib.hid (Own.below (by repeat (first | with_reducible exact Oa.out | with_reducible apply Own.drewN | with_reducible apply Own.drew | with_reducible apply Own.alloc)) b)
  have Ra := Lib.hid (Rd.below (by repeat (first | with_reducible exact Ra.out | with_reducible apply Rd.drewN | with_reducible apply Rd.drew | with_reducible apply Rd.alloc)) b)
  have Ob := Lib.hid (Own.below (by repeat (first | with_reducible exact Ob.out | with_reducible apply Own.drewN | with_reducible apply Own.drew | with_reducible apply Own.alloc)) b)
  have Rb := Lib.hid (Rd.below (by repeat (first | with_reducible exact Rb.out | with_reducible apply Rd.drewN | with_reducible apply Rd.drew | with_reducible apply Rd.alloc)) b)
  have K3 : Hid (DBox _ (w2.heap.size) (⟨31, s1, n1, .slice pa m ca⟩)) := Lib.hid (DBox.below (by repeat (first | with_reducible exact K3.out | with_reducible apply DBox.drewN | with_reducible apply DBox.drew | (with_reducible refine DBox.newAt ?_ ?_ <;> first | (simp; done) | rfl) | with_reducible apply DBox.alloc)) b)
  have K5 : Hid (DBox _ (w4.heap.size) (⟨31, s1, n1, .slice pb m cb⟩)) := Lib.hid (DBox.below (by repeat (first | with_reducible exact K5.out | with_reducible apply DBox.drewN | with_reducible apply DBox.drew | (with_reducible refine DBox.newAt ?_ ?_ <;> first | (simp; done) | rfl) | with_reducible apply DBox.alloc)) b)
  try clear k3a k3b k3c k3d k3z
  have k3z := K3.out.lt
  obtain ⟨k3a, k3b, k3c, k3d⟩ := K3.out.cell
  try clear k5a k5b k5c k5d k5z
  have k5z := K5.out.lt
  obtain ⟨k5a, k5b, k5c, k5d⟩ := K5.out.cell
  clear b
  go_wp2_with fail
  refine ((mark_deal s1 n1 R (.slice pb m cb) _ 1 m _ HMm.out (by have := HL.out; omega) (by have := Sw4.out; have := Sw5.out; omega) Ob.out)).mono ?_
  rintro e w10 ⟨rfl, oM, gM⟩
  have Sw10 := Lib.hid gM.size
  have HB := Lib.hid (Below.grown HB.out gM HB.out.size (fun k hk => Nat.le_trans (by have h0 := Zw2.out; have h1 := Sw2.out; have h2 := Sw2b.out; have h3 := Yw4K3.out; have h4 := Zw4.out; have h5 := Sw4.out; have h6 := Sw4b.out; have h7 := Sw5.out; first | omega | (simp at *; omega)) (Lb.out k hk).1))
  have Oa := Lib.hid (Own.stay Oa.out gM La.out Lb.out (by have h0 := Zw2.out; have h1 := Sw2.out; have h2 := Sw2b.out; have h3 := Yw4K3.out; have h4 := Zw4.out; have h5 := Sw4.out; have h6 := Sw4b.out; have h7 := Sw5.out; first | omega | (simp at *; omega)))
  have Ob := Lib.hid oM
  have Ra := Lib.hid (Own.rd Oa.out)
  have K3 : Hid (DBox _ (w2.heap.size) (⟨31, s1, n1, .slice pa m ca⟩)) := Lib.hid (DBox.markedN K3.out gM (fun k hk => by have q1 := (Lb.out k hk).1; have q2 := (Lb.out k hk).2; have h0 := Zw2.out; have h1 := Sw2.out; have h2 := Sw2b.out; have h3 := Yw4K3.out; have h4 := Zw4.out; have h5 := Sw4.out; have h6 := Sw4b.out; have h7 := Sw5.out; first | omega | (simp at *; omega)))
  try clear k3a k3b k3c k3d k3z
  have k3z := K3.out.lt
  obtain ⟨k3a, k3b, k3c, k3d⟩ := K3.out.cell
  have K5 : Hid (DBox _ (w4.heap.size) (⟨31, s1, n1, .slice pb m cb⟩)) := Lib.hid (DBox.markedN K5.out gM (fun k hk => by have q1 := (Lb.out k hk).1; have q2 := (Lb.out k hk).2; have h0 := Zw2.out; have h1 := Sw2.out; have h2 := Sw2b.out; have h3 := Yw4K3.out; have h4 := Zw4.out; have h5 := Sw4.out; have h6 := Sw4b.out; have h7 := Sw5.out; first | omega | (simp at *; omega)))
  try clear k5a k5b k5c k5d k5z
  have k5z := K5.out.lt
  obtain ⟨k5a, k5b, k5c, k5d⟩ := K5.out.cell
  clear oM gM
  go_wp2_with fail
  refine ((held_deal s1 n1 (.slice pb m cb) _ 1 m _ (by have := HL.out; omega) Ob.out)).mono ?_
  rintro e w11 ⟨rfl, b⟩
  have Sw11 := Lib.hid b.size
  have HB := Lib.hid (chain0 (w := w) (by repeat (first | with_reducible exact Below.refl _ _ | with_reducible exact HB.out | with_reducible apply Below.drew | with_reducible apply bdN | with_reducible refine Below.alloc ?_ (by first | exact Nat.le_refl _ | (simp; done) | (simp; omega) | (have := HB.out.size; simp at *; omega)) _ | with_reducible refine Below.setCell ?_ (by first | exact Nat.le_refl _ | (simp; done) | (simp; omega) | (have := HB.out.size; simp at *; omega)) _)) b)
  have Oa := Lib.hid (Own.below (by repeat (first | with_reducible exact Oa.out | with_reducible apply Own.drewN | with_reducible apply Own.drew | with_reducible apply Own.alloc)) b)
  have Ob := Lib.hid (Own.below (by repeat (first | with_reducible exact Ob.out | with_reducible apply Own.drewN | with_reducible apply Own.drew | with_reducible apply Own.alloc)) b)
  have Ra := Lib.hid (Rd.below (by repeat (first | with_reducible exact Ra.out | with_reducible apply Rd.drewN | with_reducible apply Rd.drew | with_reducible apply Rd.alloc)) b)
  have K3 : Hid (DBox _ (w2.heap.size) (⟨31, s1, n1, .slice pa m ca⟩)) := Lib.hid (DBox.below (by repeat (first | with_reducible exact K3.out | with_reducible apply DBox.drewN | with_reducible apply DBox.drew | (with_reducible refine DBox.newAt ?_ ?_ <;> first | (simp; done) | rfl) | with_reducible apply DBox.alloc)) b)
  have K5 : Hid (DBox _ (w4.heap.size) (⟨31, s1, n1, .slice pb m cb⟩)) := Lib.hid (DBox.below (by repeat (first | with_reducible exact K5.out | with_reducible apply DBox.drewN | with_reducible apply DBox.drew | (with_reducible refine DBox.newAt ?_ ?_ <;> first | (simp; done) | rfl) | with_reducible apply DBox.alloc)) b)
  try clear k3a k3b k3c k3d k3z
  have k3z := K3.out.lt
  obtain ⟨k3a, k3b, k3c, k3d⟩ := K3.out.cell
  try clear k5a k5b k5c k5d k5z
  have k5z := K5.out.lt
  obtain ⟨k5a, k5b, k5c, k5d⟩ := K5.out.cell
  clear b
  have Yw13K3 := Lib.hid K3.out.lt
  have Yw13K5 := Lib.hid K5.out.lt
  go_wp2_with fail
  refine ((HI.out _)).mono ?_
  rintro e w13 ⟨vc, rfl, oc, b⟩
  obtain ⟨pc, cc, rfl, hcc, rc, _⟩ := oc.form
  rw [HMm.out] at oc hcc ⊢
  have Sw13 := Lib.hid b.size
  have Lc := Lib.hid oc.span
  have HB := Lib.hid (chain0 (w := w) (by repeat (first | with_reducible exact Below.refl _ _ | with_reducible exact HB.out | with_reducible apply Below.drew | with_reducible apply bdN | with_reducible refine Below.alloc ?_ (by first | exact Nat.le_refl _ | (simp; done) | (simp; omega) | (have := HB.out.size; simp at *; omega)) _ | with_reducible refine Below.setCell ?_ (by first | exact Nat.le_refl _ | (simp; done) | (simp; omega) | (have := HB.out.size; simp at *; omega)) _)) b)
  have Zw13 := Lib.hid HB.out.size
  have Oa := Lib.hid (Own.below (by repeat (first | with_reducible exact Oa.out | with_reducible apply Own.drewN | with_reducible apply Own.drew | with_reducible apply Own.alloc)) b)
  have Ob := Lib.hid (Own.below (by repeat (first | with_reducible exact Ob.out | with_reducible apply Own.drewN | with_reducible apply Own.drew | with_reducible apply Own.alloc)) b)
  have Ra := Lib.hid (Rd.below (by repeat (first | with_reducible exact Ra.out | with_reducible apply Rd.drewN | with_reducible apply Rd.drew | with_reducible apply Rd.alloc)) b)
  have K3 : Hid (DBox _ (w2.heap.size) (⟨31, s1, n1, .slice pa m ca⟩)) := Lib.hid (DBox.below (by repeat (first | with_reducible exact K3.out | with_reducible apply DBox.drewN | with_reducible apply DBox.drew | (with_reducible refine DBox.newAt ?_ ?_ <;> first | (simp; done) | rfl) | with_reducible apply DBox.alloc)) b)
  have K5 : Hid (DBox _ (w4.heap.size) (⟨31, s1, n1, .slice pb m cb⟩)) := Lib.hid (DBox.below (by repeat (first | with_reducible exact K5.out | with_reducible apply DBox.drewN | with_reducible apply DBox.drew | (with_reducible refine DBox.newAt ?_ ?_ <;> first | (simp; done) | rfl) | with_reducible apply DBox.alloc)) b)
  try clear k3a k3b k3c k3d k3z
  have k3z := K3.out.lt
  obtain ⟨k3a, k3b, k3c, k3d⟩ := K3.out.cell
  try clear k5a k5b k5c k5d k5z
  have k5z := K5.out.lt
  obtain ⟨k5a, k5b, k5c, k5d⟩ := K5.out.cell
  have Oc := Lib.hid oc
  have Rc := Lib.hid rc
  clear b oc rc
  go_upto_region 14 with fail
  obtain ⟨w13b, ew, b⟩ : ∃ w1 : World, w1 = (w13.alloc (Dv.mk 31 s1 n1 (.slice pc m cc)).obj) ∧ Below ((w13.alloc (Dv.mk 31 s1 n1 (.slice pc m cc)).obj)).heap.size ((w13.alloc (Dv.mk 31 s1 n1 (.slice pc m cc)).obj)) w1 := ⟨_, rfl, Below.refl _ _⟩
  rw [← ew]
  clear ew
  have Sw13b := Lib.hid b.size
  have HB := Lib.hid (chain0 (w := w) (by repeat (first | with_reducible exact Below.refl _ _ | with_reducible exact HB.out | with_reducible apply Below.drew | with_reducible apply bdN | with_reducible refine Below.alloc ?_ (by first | exact Nat.le_refl _ | (simp; done) | (simp; omega) | (have := HB.out.size; simp at *; omega)) _ | with_reducible refine Below.setCell ?_ (by first | exact Nat.le_refl _ | (simp; done) | (simp; omega) | (have := HB.out.size; simp at *; omega)) _)) b)
  have Oa := Lib.hid (Own.below (by repeat (first | with_reducible exact Oa.out | with_reducible apply Own.drewN | with_reducible apply Own.drew | with_reducible apply Own.alloc)) b)
  have Ob := Lib.hid (Own.below (by repeat (first | with_reducible exact Ob.out | with_reducible apply Own.drewN | with_reducible apply Own.drew | with_reducible apply Own.alloc)) b)
  have Ra := Lib.hid (Rd.below (by repeat (first | with_reducible exact Ra.out | with_reducible apply Rd.drewN | with_reducible apply Rd.drew | with_reducible apply Rd.alloc)) b)
  have Oc := Lib.hid (Own.below (by repeat (first | with_reducible exact Oc.out | with_reducible apply Own.drewN | with_reducible apply Own.drew | with_reducible apply Own.alloc)) b)
  have Rc := Lib.hid (Rd.below (by repeat (first | with_reducible exact Rc.out | with_reducible apply Rd.drewN | with_reducible apply Rd.drew | with_reducible apply Rd.alloc)) b)
  have K3 : Hid (DBox _ (w2.heap.size) (⟨31, s1, n1, .slice pa m ca⟩)) := Lib.hid (DBox.below (by repeat (first | with_reducible exact K3.out | with_reducible apply DBox.drewN | with_reducible apply DBox.drew | (with_reducible refine DBox.newAt ?_ ?_ <;> first | (simp; done) | rfl) | with_reducible apply DBox.alloc)) b)
  have K5 : Hid (DBox _ (w4.heap.size) (⟨31, s1, n1, .slice pb m cb⟩)) := Lib.hid (DBox.below (by repeat (first | with_reducible exact K5.out | with_reducible apply DBox.drewN | with_reducible apply DBox.drew | (with_reducible refine DBox.newAt ?_ ?_ <;> first | (simp; done) | rfl) | with_reducible apply DBox.alloc)) b)
  have K9 : Hid (DBox _ (w13.heap.size) (⟨31, s1, n1, .slice pc m cc⟩)) := Lib.hid (DBox.below (by repeat (first | with_reducible exact K9.out | with_reducible apply DBox.drewN | with_reducible apply DBox.drew | (with_reducible refine DBox.newAt ?_ ?_ <;> first | (simp; done) | rfl) | with_reducible apply DBox.alloc)) b)
  try clear k3a k3b k3c k3d k3z
  have k3z := K3.out.lt
  obtain ⟨k3a, k3b, k3c, k3d⟩ := K3.out.cell
  try clear k5a k5b k5c k5d k5z
  have k5z := K5.out.lt
  obtain ⟨k5a, k5b, k5c, k5d⟩ := K5.out.cell
  try clear k9a k9b k9c k9d k9z
  have k9z := K9.out.lt
  obtain ⟨k9a, k9b, k9c, k9d⟩ := K9.out.cell
  clear b
  go_wp2_with fail
  refine ((eq_deal s1 n1 R pc pa m cc ca _ HMm.out (by have := HL.out; omega) Rc.out Ra.out)).mono ?_
  rintro e w14 ⟨rfl, b⟩
  have Sw14 := Lib.hid b.size
  have HB := Lib.hid (chain0 (w := w) (by repeat (first | with_reducible exact Below.refl _ _ | with_reducible exact HB.out | with_reducible apply Below.drew | with_reducible apply bdN | with_reducible refine Below.alloc ?_ (by first | exact Nat.le_refl _ | (simp; done) | (simp; omega) | (have := HB.out.size; simp at *; omega)) _ | with_reducible refine Below.setCell ?_ (by first | exact Nat.le_refl _ | (simp; done) | (simp; omega) | (have := HB.out.size; simp at *; omega)) _)) b)
  have Oa := Lib.hid (Own.below (by repeat (first | with_reducible exact Oa.out | with_reducible apply Own.drewN | with_reducible apply Own.drew | with_reducible apply Own.alloc)) b)
  have Ob := Lib.hid (Own.below (by repeat (first | with_reducible exact Ob.out | with_reducible apply Own.drewN | with_reducible apply Own.drew | with_reducible apply Own.alloc)) b)
  have Ra := Lib.hid (Rd.below (by repeat (first | with_reducible exact Ra.out | with_reducible apply Rd.drewN | with_reducible apply Rd.drew | with_reducible apply Rd.alloc)) b)
  have Oc := Lib.hid (Own.below (by repeat (first | with_reducible exact Oc.out | with_reducible apply Own.drewN | with_reducible apply Own.drew | with_reducible apply Own.alloc)) b)
  have Rc := Lib.hid (Rd.below (by repeat (first | with_reducible exact Rc.out | with_reducible apply Rd.drewN | with_reducible apply Rd.drew | with_reducible apply Rd.alloc)) b)
  have K3 : Hid (DBox _ (w2.heap.size) (⟨31, s1, n1, .slice pa m ca⟩)) := Lib.hid (DBox.below (by repeat (first | with_reducible exact K3.out | with_reducible apply DBox.drewN | with_reducible apply DBox.drew | (with_reducible refine DBox.newAt ?_ ?_ <;> first | (simp; done) | rfl) | with_reducible apply DBox.alloc)) b)
  have K5 : Hid (DBox _ (w4.heap.size) (⟨31, s1, n1, .slice pb m cb⟩)) := Lib.hid (DBox.below (by repeat (first | with_reducible exact K5.out | with_reducible apply DBox.drewN | with_reducible apply DBox.drew | (with_reducible refine DBox.newAt ?_ ?_ <;> first | (simp; done) | rfl) | with_reducible apply DBox.alloc)) b)
  have K9 : Hid (DBox _ (w13.heap.size) (⟨31, s1, n1, .slice pc m cc⟩)) := Lib.hid (DBox.below (by repeat (first | with_reducible exact K9.out | with_reducible apply DBox.drewN | with_reducible apply DBox.drew | (with_reducible refine DBox.newAt ?_ ?_ <;> first | (simp; done) | rfl) | with_reducible apply DBox.alloc)) b)
  try clear k3a k3b k3c k3d k3z
  have k3z := K3.out.lt
  obtain ⟨k3a, k3b, k3c, k3d⟩ := K3.out.cell
  try clear k5a k5b k5c k5d k5z
  have k5z := K5.out.lt
  obtain ⟨k5a, k5b, k5c, k5d⟩ := K5.out.cell
  try clear k9a k9b k9c k9d k9z
  have k9z := K9.out.lt
  obtain ⟨k9a, k9b, k9c, k9d⟩ := K9.out.cell
  clear b
  go_wp2_with fail
  refine ((held_deal s1 n1 (.slice pb m cb) _ 1 m _ (by have := HL.out; omega) Ob.out)).mono ?_
  rintro e w15 ⟨rfl, b⟩
  have Sw15 := Lib.hid b.size
  have HB := Lib.hid (chain0 (w := w) (by repeat (first | with_reducible exact Below.refl _ _ | with_reducible exact HB.out | with_reducible apply Below.drew | with_reducible apply bdN | with_reducible refine Below.alloc ?_ (by first | exact Nat.le_refl _ | (simp; done) | (simp; omega) | (have := HB.out.size; simp at *; omega)) _ | with_reducible refine Below.setCell ?_ (by first | exact Nat.le_refl _ | (simp; done) | (simp; omega) | (have := HB.out.size; simp at *; omega)) _)) b)
  have Oa := Lib.hid (Own.below (by repeat (first | with_reducible exact Oa.out | with_reducible apply Own.drewN | with_reducible apply Own.drew | with_reducible apply Own.alloc)) b)
  have Ob := Lib.hid (Own.below (by repeat (first | with_reducible exact Ob.out | with_reducible apply Own.drewN | with_reducible apply Own.drew | with_reducible apply Own.alloc)) b)
  have Ra := Lib.hid (Rd.below (by repeat (first | with_reducible exact Ra.out | with_reducible apply Rd.drewN | with_reducible apply Rd.drew | with_reducible apply Rd.alloc)) b)
  have Oc := Lib.hid (Own.below (by repeat (first | with_reducible exact Oc.out | with_reducible apply Own.drewN | with_reducible apply Own.drew | with_reducible apply Own.alloc)) b)
  have Rc := Lib.hid (Rd.below (by repeat (first | with_reducible exact Rc.out | with_reducible apply Rd.drewN | with_reducible apply Rd.drew | with_reducible apply Rd.alloc)) b)
  have K3 : Hid (DBox _ (w2.heap.size) (⟨31, s1, n1, .slice pa m ca⟩)) := Lib.hid (DBox.below (by repeat (first | with_reducible exact K3.out | with_reducible apply DBox.drewN | with_reducible apply DBox.drew | (with_reducible refine DBox.newAt ?_ ?_ <;> first | (simp; done) | rfl) | with_reducible apply DBox.alloc)) b)
  have K5 : Hid (DBox _ (w4.heap.size) (⟨31, s1, n1, .slice pb m cb⟩)) := Lib.hid (DBox.below (by repeat (first | with_reducible exact K5.out | with_reducible apply DBox.drewN | with_reducible apply DBox.drew | (with_reducible refine DBox.newAt ?_ ?_ <;> first | (simp; done) | rfl) | with_reducible apply DBox.alloc)) b)
  have K9 : Hid (DBox _ (w13.heap.size) (⟨31, s1, n1, .slice pc m cc⟩)) := Lib.hid (DBox.below (by repeat (first | with_reducible exact K9.out | with_reducible apply DBox.drewN | with_reducible apply DBox.drew | (with_reducible refine DBox.newAt ?_ ?_ <;> first | (simp; done) | rfl) | with_reducible apply DBox.alloc)) b)
  try clear k3a k3b k3c k3d k3z
  have k3z := K3.out.lt
  obtain ⟨k3a, k3b, k3c, k3d⟩ := K3.out.cell
  try clear k5a k5b k5c k5d k5z
  have k5z := K5.out.lt
  obtain ⟨k5a, k5b, k5c, k5d⟩ := K5.out.cell
  try clear k9a k9b k9c k9d k9z
  have k9z := K9.out.lt
  obtain ⟨k9a, k9b, k9c, k9d⟩ := K9.out.cell
  clear b
  go_wp2_with fail
  go_ret
  exact ⟨rfl, by repeat (first | with_reducible exact Below.refl _ _ | with_reducible exact HB.out | with_reducible apply Below.drew | with_reducible apply bdN | with_reducible refine Below.alloc ?_ (by first | exact Nat.le_refl _ | (simp; done) | (simp; omega) | (have := HB.out.size; simp at *; omega)) _ | with_reducible refine Below.setCell ?_ (by first | exact Nat.le_refl _ | (simp; done) | (simp; omega) | (have := HB.out.size; simp at *; omega)) _)⟩

theorem own : ownKnob Try.prog.godebug = none := by kernel_rfl
theorem laidOut : laidOutB Try.prog = true := by kernel_rfl
set_option maxRecDepth 100000 in
set_option maxHeartbeats 1000000 in
theorem lifted (os : Os) (started : os.Started) (H : Type) (enc : TypeId × Value → H) :
    ReturnsInHanded {} Try.checked os 5 .any (Rows.fnExactNewDealSpec.pre6 enc Try.prog Try.f5 Rows.fnExactNewDealRow.domain false) (Rows.fnExactNewDealSpec.post enc Try.prog Try.f5 false true false false) := by
  refine returnsInHanded_of_change (C := Try.checked) own started (by kernel_rfl) Try.func5
    (ChangeSpec.witness6 (enc := enc) (C := Try.checked) false ⟨#[], #[.int .i64 0], []⟩ 8 (by kernel_rfl) (by kernel_rfl) (by kernel_rfl) (by kernel_rfl)) ?_
  intro W base args ds gs before hval0 hW hcnd _
  have hval : ∀ (j : Nat) t v, Try.f5.params[j]? = some t → args[j]? = some v → Value.okWide Try.prog W .any base t v := hval0
  have hW' := hW
  obtain ⟨p, q, hA0, hV, rfl, hfz, hnd⟩ := hW
  have hA : DataW.TrodAll enc Try.prog W 0 (fun _ => true) true Try.f5.params.toList args.toList ds p := hA0
  rw [Try.params5] at hA hval
  have hR := fun (W' : World) (hb : Below W.heap.size W W') => frame.still_all laidOut hb _ _ _ _ (by decide +kernel) hA
  obtain ⟨v0, vs0, d0, ds0, p0, q0, hargs, rfl, hp, h0, r0⟩ := trodAll_cons hA
  obtain ⟨rfl, rfl, hpn⟩ := trodAll_nil r0
  obtain rfl : args = #[v0] := by cases args; simp_all
  obtain ⟨rfl, rfl⟩ := trodVars_none hV
  obtain ⟨a0, rfl, rfl, -, w0⟩ := open_int Try.underlying3 (hval 0 3 v0 rfl rfl) h0
  clear hA0 hval0
  simp only [List.append_nil] at hW'
  refine (walk a0 W w0).mono fun e W' ⟨he, hw⟩ => ?_
  subst he
  exact ⟨_, rfl, _, _, _, [], p, [], hW', trodAll_mk1 (shut_bool Try.underlying4 _), hR W' hw, rfl, hw.frame _, fun h => by cases h⟩

theorem over : Rows.fnExactNewDealRow.holds Try.pinned (OpenSpec.ofChange Rows.fnExactNewDealSpec) :=
  OpenClaim.holds_of_wide 5 Try.f5 rfl rfl rfl rfl rfl rfl rfl ⟨rfl, rfl, rfl, rfl, rfl⟩ rfl rfl rfl rfl rfl (by kernel_rfl) Try.func5 (by kernel_rfl)
    (of_decide_eq_true (by kernel_rfl)) (by unfold Func.isWrapper; first | (rw [if_pos (by decide +kernel)]; kernel_rfl) | (rw [if_neg (by decide +kernel)]; exact ⟨rfl, rfl⟩))
    (fun os started H enc _ => lifted os started H enc)

theorem proved : Rows.FnExactNewDealSaid := over
end Go.Proofs.Ytghjopgbhodccaa.lawNewDeal