/- FnExactDropCard: for every list of cards and every card, valid or not, the law returns true and its arguments read as before. No condition. -/
import Derived.Test.YtbimbaogjknboabRows
import Derived.Test.YtbimbaogjknboabFw
import Derived.Test.YtbimbaogjknboabTn
import Derived.Test.YtbimbaogjknboabDp
import Derived.Deep.RegionHeld3
import Derived.Deep.DeepCutAuto
namespace Go.Proofs.Ytbimbaogjknboab.lawDropCard
open Go.ChangeShapes Go.WideShapes Go.ChangeAt Go.RowKit
open Go.ChangeMaps (open_string shut_string)
open cards
set_option linter.unusedVariables false

set_option maxRecDepth 100000 in
set_option maxHeartbeats 4000000 in
theorem walk (p : Option Addr) (n cp : Nat) (l : List Cd) (c : Cd) (w : World) (hw : l.length = n ∧ n ≤ maxLen ∧ Rd w p (flat l)) (hwf : wf4 c) :
    Calls Try.prog 6 #[.slice p n cp, c.val] w fun e w' => e = .returned (.bool true) ∧ Below w.heap.size w w' := by
  obtain ⟨hn, hm, hr⟩ := hw
  have HN := Lib.hid hn
  have HM := Lib.hid hm
  have HR := Lib.hid hr
  have HR0 := Lib.hid hr
  clear hn hm hr
  by_cases hs : n ≤ 1048576
  · obtain ⟨z0, z1⟩ := szLeft_yes hs
    have HL : Hid ((dropR l c).1.length ≤ 100000000) := Nat.le_trans (dropR_len l c) (by omega)
    obtain ⟨R, hR⟩ : ∃ R, (dropR l c).1 = R := ⟨_, rfl⟩
    obtain ⟨ok, hok⟩ : ∃ ok, (dropR l c).2 = ok := ⟨_, rfl⟩
    have HS := Lib.hid (fun p n cp w a b d e => spec_drop2 l c hwf p n cp w a b d e)
    have HI := Lib.hid (fun p n cp w a b d e => impl_drop2 l c hwf p n cp w a b d e)
    rw [hR] at HL HS HI
    rw [hok] at HS HI
    clear hR hok
    obtain ⟨m, hm⟩ : ∃ m, R.length = m := ⟨_, rfl⟩
    have HMm := Lib.hid hm
    rw [hm] at HL
    clear hm
    go_enter Try.func6, Try.ntmps6
    go_wp2_with fail
    refine (sz_hand p n cp 1048576 _ (by omega) (by omega) HM.out).mono ?_
    rintro e w' ⟨rfl, rfl⟩
    go_upto_region 5 with fail
    obtain ⟨w0, ew, b⟩ : ∃ w1 : World, w1 = (w.alloc c.obj) ∧ Below ((w.alloc c.obj)).heap.size ((w.alloc c.obj)) w1 := ⟨_, rfl, Below.refl _ _⟩
    rw [← ew]
    clear ew
    have Sw0 := Lib.hid b.size
    have HB := Lib.hid (chain0 (w := w) (by repeat (first | with_reducible exact Below.refl _ _ | with_reducible exact HB.out | with_reducible apply Below.drew | with_reducible apply bdN | with_reducible refine Below.alloc ?_ (by first | exact Nat.le_refl _ | (simp; done) | (simp; omega) | (have := HB.out.size; simp at *; omega)) _ | with_reducible refine Below.setCell ?_ (by first | exact Nat.le_refl _ | (simp; done) | (simp; omega) | (have := HB.out.size; simp at *; omega)) _)) b)
    have HR := Lib.hid (Rd.below (by repeat (first | with_reducible exact HR.out | with_reducible apply Rd.drewN | with_reducible apply Rd.drew | with_reducible apply Rd.alloc)) b)
    have K0 : Hid (Box _ (w.heap.size) (c)) := Lib.hid (Box.below (by repeat (first | with_reducible exact K0.out | with_reducible apply Box.drewN | with_reducible apply Box.drew | (with_reducible refine Box.newAt ?_ ?_ <;> first | (simp; done) | rfl) | with_reducible apply Box.alloc)) b)
    try clear k0a k0b k0c k0d k0z
    have k0z := K0.out.lt
    obtain ⟨k0a, k0b, k0c, k0d⟩ := K0.out.cell
    clear b
    go_cut [6, 7] (fun s6 s7 wx => ∃ pa ca, s6 = .slice pa m ca ∧ s7 = .bool ok ∧ Hid (Own wx 0 (.slice pa m ca) R) ∧ Hid (Below w.heap.size w wx) ∧ Hid (Box wx w.heap.size c))
    case first =>
      go_region_held3 (fun w' => w'.cell? ⟨w.heap.size, 0, none⟩ = some (.int .i64 c.a) ∧ w'.cell? ⟨w.heap.size, 1, none⟩ = some (.int .i64 c.b) ∧ w'.cell? ⟨w.heap.size, 2, none⟩ = some (.int .i64 c.c) ∧ w'.cell? ⟨w.heap.size, 3, none⟩ = some (.int .i64 c.d)) (first | exact ⟨k0a, k0b, k0c, k0d⟩ | go_keep) (first
        | (go_at_call 21; refine (to_hand2 l p n cp _ HN.out (by omega) (by repeat (first | with_reducible exact HR.out | with_reducible apply Rd.drewN | with_reducible apply Rd.drew | with_reducible apply Rd.alloc))).mono ?_; rintro e wq ⟨p1, c1, rfl, o1, r1, hc1, b⟩; have HB := Lib.hid (chain0 (w := w) (by repeat (first | with_reducible exact Below.refl _ _ | with_reducible exact HB.out | with_reducible apply Below.drew | with_reducible apply bdN | with_reducible refine Below.alloc ?_ (by first | exact Nat.le_refl _ | (simp; done) | (simp; omega) | (have := HB.out.size; simp at *; omega)) _ | with_reducible refine Below.setCell ?_ (by first | exact Nat.le_refl _ | (simp; done) | (simp; omega) | (have := HB.out.size; simp at *; omega)) _)) b); have HR := Lib.hid (Rd.below (by repeat (first | with_reducible exact HR.out | with_reducible apply Rd.drewN | with_reducible apply Rd.drew | with_reducible apply Rd.alloc)) b); have K0 : Hid (Box _ (w.heap.size) (c)) := Lib.hid (Box.below (by repeat (first | with_reducible exact K0.out | with_reducible apply Box.drewN | with_reducible apply Box.drew | (with_reducible refine Box.newAt ?_ ?_ <;> first | (simp; done) | rfl) | with_reducible apply Box.alloc)) b); obtain ⟨k0a, k0b, k0c, k0d⟩ := K0.out.cell; have k0z := K0.out.lt; have R1 := Lib.hid r1; clear b r1 o1)
        | (go_at_call 22; refine (to_a4 c _).mono ?_; rintro e wq ⟨rfl, b⟩; have HB := Lib.hid (chain0 (w := w) (by repeat (first | with_reducible exact Below.refl _ _ | with_reducible exact HB.out | with_reducible apply Below.drew | with_reducible apply bdN | with_reducible refine Below.alloc ?_ (by first | exact Nat.le_refl _ | (simp; done) | (simp; omega) | (have := HB.out.size; simp at *; omega)) _ | with_reducible refine Below.setCell ?_ (by first | exact Nat.le_refl _ | (simp; done) | (simp; omega) | (have := HB.out.size; simp at *; omega)) _)) b); have HR := Lib.hid (Rd.below (by repeat (first | with_reducible exact HR.out | with_reducible apply Rd.drewN | with_reducible apply Rd.drew | with_reducible apply Rd.alloc)) b); have K0 : Hid (Box _ (w.heap.size) (c)) := Lib.hid (Box.below (by repeat (first | with_reducible exact K0.out | with_reducible apply Box.drewN | with_reducible apply Box.drew | (with_reducible refine Box.newAt ?_ ?_ <;> first | (simp; done) | rfl) | with_reducible apply Box.alloc)) b); obtain ⟨k0a, k0b, k0c, k0d⟩ := K0.out.cell; have k0z := K0.out.lt; have R1 := Lib.hid (Rd.below (by repeat (first | with_reducible exact R1.out | with_reducible apply Rd.drewN | with_reducible apply Rd.drew | with_reducible apply Rd.alloc)) b); clear b)
        | (go_at_call 29; refine (HS.out p1 n c1 _ HN.out (by omega) (by repeat (first | with_reducible exact R1.out | with_reducible apply Rd.drewN | with_reducible apply Rd.drew | with_reducible apply Rd.alloc)) hc1).mono ?_; rintro e wq ⟨va, rfl, oa, b⟩; obtain ⟨pa, ca, rfl, hca, ra, _⟩ := oa.form; rw [HMm.out] at oa hca ⊢; have HB := Lib.hid (chain0 (w := w) (by repeat (first | with_reducible exact Below.refl _ _ | with_reducible exact HB.out | with_reducible apply Below.drew | with_reducible apply bdN | with_reducible refine Below.alloc ?_ (by first | exact Nat.le_refl _ | (simp; done) | (simp; omega) | (have := HB.out.size; simp at *; omega)) _ | with_reducible refine Below.setCell ?_ (by first | exact Nat.le_refl _ | (simp; done) | (simp; omega) | (have := HB.out.size; simp at *; omega)) _)) b); have HR := Lib.hid (Rd.below (by repeat (first | with_reducible exact HR.out | with_reducible apply Rd.drewN | with_reducible apply Rd.drew | with_reducible apply Rd.alloc)) b); have K0 : Hid (Box _ (w.heap.size) (c)) := Lib.hid (Box.below (by repeat (first | with_reducible exact K0.out | with_reducible apply Box.drewN | with_reducible apply Box.drew | (with_reducible refine Box.newAt ?_ ?_ <;> first | (simp; done) | rfl) | with_reducible apply Box.alloc)) b); obtain ⟨k0a, k0b, k0c, k0d⟩ := K0.out.cell; have k0z := K0.out.lt; have Oa := Lib.hid (oa.base (Nat.zero_le _)); clear b oa hca ra))
      all_goals
        go_wp2_with fail
        go_meet
        case rel => exact ⟨_, _, rfl, rfl, Lib.hid (by repeat (first | with_reducible exact Oa.out | with_reducible apply Own.drewN | with_reducible apply Own.drew)), Lib.hid (by repeat (first | with_reducible exact Below.refl _ _ | with_reducible exact HB.out | with_reducible apply Below.drew | with_reducible apply bdN | with_reducible refine Below.alloc ?_ (by first | exact Nat.le_refl _ | (simp; done) | (simp; omega) | (have := HB.out.size; simp at *; omega)) _ | with_reducible refine Below.setCell ?_ (by first | exact Nat.le_refl _ | (simp; done) | (simp; omega) | (have := HB.out.size; simp at *; omega)) _)), Lib.hid (by repeat (first | with_reducible exact K0.out | with_reducible apply Box.drewN | with_reducible apply Box.drew))⟩
    case rest =>
      clear HB HR K0 k0a k0b k0c k0d k0z
      obtain ⟨pa, ca, rfl, rfl, Oa, HB, K0⟩ := hcut
      obtain ⟨k0a, k0b, k0c, k0d⟩ := K0.out.cell
      have k0z := K0.out.lt
      have HR := Lib.hid (Rd.below HR0.out HB.out)
      have La := Lib.hid Oa.out.span
      have Ra := Lib.hid Oa.out.rd
      have Yw3K0 := Lib.hid K0.out.lt
      go_wp2_with fail
      refine ((to_hand2 l p n cp _ HN.out (by omega) HR.out)).mono ?_
      rintro e w3 ⟨p2, c2, rfl, o2, r2, hc2, b⟩
      have Sw3 := Lib.hid b.size
      have L2 := Lib.hid o2.span
      have HB := Lib.hid (chain0 (w := w) (by repeat (first | with_reducible exact Below.refl _ _ | with_reducible exact HB.out | with_reducible apply Below.drew | with_reducible apply bdN | with_reducible refine Below.alloc ?_ (by first | exact Nat.le_refl _ | (simp; done) | (simp; omega) | (have := HB.out.size; simp at *; omega)) _ | with_reducible refine Below.setCell ?_ (by first | exact Nat.le_refl _ | (simp; done) | (simp; omega) | (have := HB.out.size; simp at *; omega)) _)) b)
      have Zw3 := Lib.hid HB.out.size
      have HR := Lib.hid (Rd.below (by repeat (first | with_reducible exact HR.out | with_reducible apply Rd.drewN | with_reducible apply Rd.drew | with_reducible apply Rd.alloc)) b)
      have Oa := Lib.hid (Own.below (by repeat (first | with_reducible exact Oa.out | with_reducible apply Own.drewN | with_reducible apply Own.drew | with_reducible apply Own.alloc)) b)
      have Ra := Lib.hid (Rd.below (by repeat (first | with_reducible exact Ra.out | with_reducible apply Rd.drewN | with_reducible apply Rd.drew | with_reducible apply Rd.alloc)) b)
      have K0 : Hid (Box _ (w.heap.size) (c)) := Lib.hid (Box.below (by repeat (first | with_reducible exact K0.out | with_reducible apply Box.drewN | with_reducible apply Box.drew | (with_reducible refine Box.newAt ?_ ?_ <;> first | (simp; done) | rfl) | with_reducible apply Box.alloc)) b)
      try clear k0a k0b k0c k0d k0z
      have k0z := K0.out.lt
      obtain ⟨k0a, k0b, k0c, k0d⟩ := K0.out.cell
      have O2 := Lib.hid o2
      have R2 := Lib.hid r2
      clear b o2 r2
      go_wp2_with fail
      refine ((to_a4 c _)).mono ?_
      rintro e w4 ⟨rfl, b⟩
      have Sw4 := Lib.hid b.size
      have HB := Lib.hid (chain0 (w := w) (by repeat (first | with_reducible exact Below.refl _ _ | with_reducible exact HB.out | with_reducible apply Below.drew | with_reducible apply bdN | with_reducible refine Below.alloc ?_ (by first | exact Nat.le_refl _ | (simp; done) | (simp; omega) | (have := HB.out.size; simp at *; omega)) _ | with_reducible refine Below.setCell ?_ (by first | exact Nat.le_refl _ | (simp; done) | (simp; omega) | (have := HB.out.size; simp at *; omega)) _)) b)
      have HR := Lib.hid (Rd.below (by repeat (first | with_reducible exact HR.out | with_reducible apply Rd.drewN | with_reducible apply Rd.drew | with_reducible apply Rd.alloc)) b)
      have Oa := Lib.hid (Own.below (by repeat (first | with_reducible exact Oa.out | with_reducible apply Own.drewN | with_reducible apply Own.drew | with_reducible apply Own.alloc)) b)
      have Ra := Lib.hid (Rd.below (by repeat (first | with_reducible exact Ra.out | with_reducible apply Rd.drewN | with_reducible apply Rd.drew | with_reducible apply Rd.alloc)) b)
      have O2 := Lib.hid (Own.below (by repeat (first | with_reducible exact O2.out | with_reducible apply Own.drewN | with_reducible apply Own.drew | with_reducible apply Own.alloc)) b)
      have R2 := Lib.hid (Rd.below (by repeat (first | with_reducible exact R2.out | with_reducible apply Rd.drewN | with_reducible apply Rd.drew | with_reducible apply Rd.alloc)) b)
      have K0 : Hid (Box _ (w.heap.size) (c)) := Lib.hid (Box.below (by repeat (first | with_reducible exact K0.out | with_reducible apply Box.drewN | with_reducible apply Box.drew | (with_reducible refine Box.newAt ?_ ?_ <;> first | (simp; done) | rfl) | with_reducible apply Box.alloc)) b)
      try clear k0a k0b k0c k0d k0z
      have k0z := K0.out.lt
      obtain ⟨k0a, k0b, k0c, k0d⟩ := K0.out.cell
      clear b
      have Yw5K0 := Lib.hid K0.out.lt
      go_wp2_with fail
      refine ((HI.out p2 n c2 _ HN.out (by omega) R2.out hc2)).mono ?_
      rintro e w5 ⟨vb, rfl, ob, b⟩
      obtain ⟨pb, cb, rfl, hcb, rb, _⟩ := ob.form
      rw [HMm.out] at ob hcb ⊢
      have Sw5 := Lib.hid b.size
      have Lb := Lib.hid ob.span
      have HB := Lib.hid (chain0 (w := w) (by repeat (first | with_reducible exact Below.refl _ _ | with_reducible exact HB.out | with_reducible apply Below.drew | with_reducible apply bdN | with_reducible refine Below.alloc ?_ (by first | exact Nat.le_refl _ | (simp; done) | (simp; omega) | (have := HB.out.size; simp at *; omega)) _ | with_reducible refine Below.setCell ?_ (by first | exact Nat.le_refl _ | (simp; done) | (simp; omega) | (have := HB.out.size; simp at *; omega)) _)) b)
      have Zw5 := Lib.hid HB.out.size
      have HR := Lib.hid (Rd.below (by repeat (first | with_reducible exact HR.out | with_reducible apply Rd.drewN | with_reducible apply Rd.drew | with_reducible apply Rd.alloc)) b)
      have Oa := Lib.hid (Own.below (by repeat (first | with_reducible exact Oa.out | with_reducible apply Own.drewN | with_reducible apply Own.drew | with_reducible apply Own.alloc)) b)
      have Ra := Lib.hid (Rd.below (by repeat (first | with_reducible exact Ra.out | with_reducible apply Rd.drewN | with_reducible apply Rd.drew | with_reducible apply Rd.alloc)) b)
      have O2 := Lib.hid (Own.below (by repeat (first | with_reducible exact O2.out | with_reducible apply Own.drewN | with_reducible apply Own.drew | with_reducible apply Own.alloc)) b)
      have R2 := Lib.hid (Rd.below (by repeat (first | with_reducible exact R2.out | with_reducible apply Rd.drewN | with_reducible apply Rd.drew | with_reducible apply Rd.alloc)) b)
      have K0 : Hid (Box _ (w.heap.size) (c)) := Lib.hid (Box.below (by repeat (first | with_reducible exact K0.out | with_reducible apply Box.drewN | with_reducible apply Box.drew | (with_reducible refine Box.newAt ?_ ?_ <;> first | (simp; done) | rfl) | with_reducible apply Box.alloc)) b)
      try clear k0a k0b k0c k0d k0z
      have k0z := K0.out.lt
      obtain ⟨k0a, k0b, k0c, k0d⟩ := K0.out.cell
      have Ob := Lib.hid ob
      have Rb := Lib.hid rb
      clear b ob rb
      go_wp2_with fail
      refine ((eq_hand R pb pa m cb ca _ HMm.out (by have := HL.out; omega) Rb.out Ra.out)).mono ?_
      rintro e w6 ⟨rfl, b⟩
      have Sw6 := Lib.hid b.size
      have HB := Lib.hid (chain0 (w := w) (by repeat (first | with_reducible exact Below.refl _ _ | with_reducible exact HB.out | with_reducible apply Below.drew | with_reducible apply bdN | with_reducible refine Below.alloc ?_ (by first | exact Nat.le_refl _ | (simp; done) | (simp; omega) | (have := HB.out.size; simp at *; omega)) _ | with_reducible refine Below.setCell ?_ (by first | exact Nat.le_refl _ | (simp; done) | (simp; omega) | (have := HB.out.size; simp at *; omega)) _)) b)
      have HR := Lib.hid (Rd.below (by repeat (first | with_reducible exact HR.out | with_reducible apply Rd.drewN | with_reducible apply Rd.drew | with_reducible apply Rd.alloc)) b)
      have Oa := Lib.hid (Own.below (by repeat (first | with_reducible exact Oa.out | with_reducible apply Own.drewN | with_reducible apply Own.drew | with_reducible apply Own.alloc)) b)
      have Ra := Lib.hid (Rd.below (by repeat (first | with_reducible exact Ra.out | with_reducible apply Rd.drewN | with_reducible apply Rd.drew | with_reducible apply Rd.alloc)) b)
      have O2 := Lib.hid (Own.below (by repeat (first | with_reducible exact O2.out | with_reducible apply Own.drewN | with_reducible apply Own.drew | with_reducible apply Own.alloc)) b)
      have R2 := Lib.hid (Rd.below (by repeat (first | with_reducible exact R2.out | with_reducible apply Rd.drewN | with_reducible apply Rd.drew | with_reducible apply Rd.alloc)) b)
      have Ob := Lib.hid (Own.below (by repeat (first | with_reducible exact Ob.out | with_reducible apply Own.drewN | with_reducible apply Own.drew | with_reducible apply Own.alloc)) b)
      have Rb := Lib.hid (Rd.below (by repeat (first | with_reducible exact Rb.out | with_reducible apply Rd.drewN | with_reducible apply Rd.drew | with_reducible apply Rd.alloc)) b)
      have K0 : Hid (Box _ (w.heap.size) (c)) := Lib.hid (Box.below (by repeat (first | with_reducible exact K0.out | with_reducible apply Box.drewN | with_reducible apply Box.drew | (with_reducible refine Box.newAt ?_ ?_ <;> first | (simp; done) | rfl) | with_reducible apply Box.alloc)) b)
      try clear k0a k0b k0c k0d k0z
      have k0z := K0.out.lt
      obtain ⟨k0a, k0b, k0c, k0d⟩ := K0.out.cell
      clear b
      have Yw7K0 := Lib.hid K0.out.lt
      go_wp2_with fail
      refine ((to_hand2 l p n cp _ HN.out (by omega) HR.out)).mono ?_
      rintro e w7 ⟨p3, c3, rfl, o3, r3, hc3, b⟩
      have Sw7 := Lib.hid b.size
      have L3 := Lib.hid o3.span
      have HB := Lib.hid (chain0 (w := w) (by repeat (first | with_reducible exact Below.refl _ _ | with_reducible exact HB.out | with_reducible apply Below.drew | with_reducible apply bdN | with_reducible refine Below.alloc ?_ (by first | exact Nat.le_refl _ | (simp; done) | (simp; omega) | (have := HB.out.size; simp at *; omega)) _ | with_reducible refine Below.setCell ?_ (by first | exact Nat.le_refl _ | (simp; done) | (simp; omega) | (have := HB.out.size; simp at *; omega)) _)) b)
      have Zw7 := Lib.hid HB.out.size
      have HR := Lib.hid (Rd.below (by repeat (first | with_reducible exact HR.out | with_reducible apply Rd.drewN | with_reducible apply Rd.drew | with_reducible apply Rd.alloc)) b)
      have Oa := Lib.hid (Own.below (by repeat (first | with_reducible exact Oa.out | with_reducible apply Own.drewN | with_reducible apply Own.drew | with_reducible apply Own.alloc)) b)
      have Ra := Lib.hid (Rd.below (by repeat (first | with_reducible exact Ra.out | with_reducible apply Rd.drewN | with_reducible apply Rd.drew | with_reducible apply Rd.alloc)) b)
      have O2 := Lib.hid (Own.below (by repeat (first | with_reducible exact O2.out | with_reducible apply Own.drewN | with_reducible apply Own.drew | with_reducible apply Own.alloc)) b)
      have R2 := Lib.hid (Rd.below (by repeat (first | with_reducible exact R2.out | with_reducible apply Rd.drewN | with_reducible apply Rd.drew | with_reducible apply Rd.alloc)) b)
      have Ob := Lib.hid (Own.below (by repeat (first | with_reducible exact Ob.out | with_reducible apply Own.drewN | with_reducible apply Own.drew | with_reducible apply Own.alloc)) b)
      have Rb := Lib.hid (Rd.below (by repeat (first | with_reducible exact Rb.out | with_reducible apply Rd.drewN | with_reducible apply Rd.drew | with_reducible apply Rd.alloc)) b)
      have K0 : Hid (Box _ (w.heap.size) (c)) := Lib.hid (Box.below (by repeat (first | with_reducible exact K0.out | with_reducible apply Box.drewN | with_reducible apply Box.drew | (with_reducible refine Box.newAt ?_ ?_ <;> first | (simp; done) | rfl) | with_reducible apply Box.alloc)) b)
      try clear k0a k0b k0c k0d k0z
      have k0z := K0.out.lt
      obtain ⟨k0a, k0b, k0c, k0d⟩ := K0.out.cell
      have O3 := Lib.hid o3
      have R3 := Lib.hid r3
      clear b o3 r3
      go_wp2_with fail
      refine ((eq_hand l p2 p3 n c2 c3 _ HN.out (by omega) R2.out R3.out)).mono ?_
      rintro e w8 ⟨rfl, b⟩
      have Sw8 := Lib.hid b.size
      have HB := Lib.hid (chain0 (w := w) (by repeat (first | with_reducible exact Below.refl _ _ | with_reducible exact HB.out | with_reducible apply Below.drew | with_reducible apply bdN | with_reducible refine Below.alloc ?_ (by first | exact Nat.le_refl _ | (simp; done) | (simp; omega) | (have := HB.out.size; simp at *; omega)) _ | with_reducible refine Below.setCell ?_ (by first | exact Nat.le_refl _ | (simp; done) | (simp; omega) | (have := HB.out.size; simp at *; omega)) _)) b)
      have HR := Lib.hid (Rd.below (by repeat (first | with_reducible exact HR.out | with_reducible apply Rd.drewN | with_reducible apply Rd.drew | with_reducible apply Rd.alloc)) b)
      have Oa := Lib.hid (Own.below (by repeat (first | with_reducible exact Oa.out | with_reducible apply Own.drewN | with_reducible apply Own.drew | with_reducible apply Own.alloc)) b)
      have Ra := Lib.hid (Rd.below (by repeat (first | with_reducible exact Ra.out | with_reducible apply Rd.drewN | with_reducible apply Rd.drew | with_reducible apply Rd.alloc)) b)
      have O2 := Lib.hid (Own.below (by repeat (first | with_reducible exact O2.out | with_reducible apply Own.drewN | with_reducible apply Own.drew | with_reducible apply Own.alloc)) b)
      have R2 := Lib.hid (Rd.below (by repeat (first | with_reducible exact R2.out | with_reducible apply Rd.drewN | with_reducible apply Rd.drew | with_reducible apply Rd.alloc)) b)
      have Ob := Lib.hid (Own.below (by repeat (first | with_reducible exact Ob.out | with_reducible apply Own.drewN | with_reducible apply Own.drew | with_reducible apply Own.alloc)) b)
      have Rb := Lib.hid (Rd.below (by repeat (first | with_reducible exact Rb.out | with_reducible apply Rd.drewN | with_reducible apply Rd.drew | with_reducible apply Rd.alloc)) b)
      have O3 := Lib.hid (Own.below (by repeat (first | with_reducible exact O3.out | with_reducible apply Own.drewN | with_reducible apply Own.drew | with_reducible apply Own.alloc)) b)
      have R3 := Lib.hid (Rd.below (by repeat (first | with_reducible exact R3.out | with_reducible apply Rd.drewN | with_reducible apply Rd.drew | with_reducible apply Rd.alloc)) b)
      have K0 : Hid (Box _ (w.heap.size) (c)) := Lib.hid (Box.below (by repeat (first | with_reducible exact K0.out | with_reducible apply Box.drewN | with_reducible apply Box.drew | (with_reducible refine Box.newAt ?_ ?_ <;> first | (simp; done) | rfl) | with_reducible apply Box.alloc)) b)
      try clear k0a k0b k0c k0d k0z
      have k0z := K0.out.lt
      obtain ⟨k0a, k0b, k0c, k0d⟩ := K0.out.cell
      clear b
      go_wp2_with fail
      refine ((mark_hand l (.slice p2 n c2) _ 1 n _ HN.out (by omega) (by have := Sw4.out; have := Sw5.out; have := Sw6.out; have := Sw7.out; have := Sw8.out; have := Sw3.out; omega) O2.out)).mono ?_
      rintro e w9 ⟨rfl, oM, gM⟩
      have Sw9 := Lib.hid gM.size
      have HB := Lib.hid (Below.grown HB.out gM HB.out.size (fun k hk => Nat.le_trans (by have h0 := Sw0.out; have h1 := Yw3K0.out; have h2 := Zw3.out; have h3 := Sw3.out; have h4 := Sw4.out; have h5 := Yw5K0.out; have h6 := Zw5.out; have h7 := Sw5.out; have h8 := Sw6.out; have h9 := Yw7K0.out; have h10 := Zw7.out; have h11 := Sw7.out; have h12 := Sw8.out; first | omega | (simp at *; omega)) (L2.out k hk).1))
      have HR := Lib.hid (Rd.below HR0.out HB.out)
      have Oa := Lib.hid (Own.stay Oa.out gM La.out L2.out (by have h0 := Sw0.out; have h1 := Yw3K0.out; have h2 := Zw3.out; have h3 := Sw3.out; have h4 := Sw4.out; have h5 := Yw5K0.out; have h6 := Zw5.out; have h7 := Sw5.out; have h8 := Sw6.out; have h9 := Yw7K0.out; have h10 := Zw7.out; have h11 := Sw7.out; have h12 := Sw8.out; first | omega | (simp at *; omega)))
      have Ob := Lib.hid (Own.stay Ob.out gM Lb.out L2.out (by have h0 := Sw0.out; have h1 := Yw3K0.out; have h2 := Zw3.out; have h3 := Sw3.out; have h4 := Sw4.out; have h5 := Yw5K0.out; have h6 := Zw5.out; have h7 := Sw5.out; have h8 := Sw6.out; have h9 := Yw7K0.out; have h10 := Zw7.out; have h11 := Sw7.out; have h12 := Sw8.out; first | omega | (simp at *; omega)))
      have O2 := Lib.hid oM
      have Ra := Lib.hid (Own.rd Oa.out)
      have Rb := Lib.hid (Own.rd Ob.out)
      have K0 : Hid (Box _ (w.heap.size) (c)) := Lib.hid (Box.marked K0.out gM (fun k hk => Nat.lt_of_lt_of_le (by have h0 := Sw0.out; have h1 := Yw3K0.out; have h2 := Zw3.out; have h3 := Sw3.out; have h4 := Sw4.out; have h5 := Yw5K0.out; have h6 := Zw5.out; have h7 := Sw5.out; have h8 := Sw6.out; have h9 := Yw7K0.out; have h10 := Zw7.out; have h11 := Sw7.out; have h12 := Sw8.out; first | omega | (simp at *; omega)) (L2.out k hk).1))
      try clear k0a k0b k0c k0d k0z
      have k0z := K0.out.lt
      obtain ⟨k0a, k0b, k0c, k0d⟩ := K0.out.cell
      clear oM gM
      go_wp2_with fail
      refine ((eq_hand R pb pa m cb ca _ HMm.out (by have := HL.out; omega) Rb.out Ra.out)).mono ?_
      rintro e w10 ⟨rfl, b⟩
      have Sw10 := Lib.hid b.size
      have HB := Lib.hid (chain0 (w := w) (by repeat (first | with_reducible exact Below.refl _ _ | with_reducible exact HB.out | with_reducible apply Below.drew | with_reducible apply bdN | with_reducible refine Below.alloc ?_ (by first | exact Nat.le_refl _ | (simp; done) | (simp; omega) | (have := HB.out.size; simp at *; omega)) _ | with_reducible refine Below.setCell ?_ (by first | exact Nat.le_refl _ | (simp; done) | (simp; omega) | (have := HB.out.size; simp at *; omega)) _)) b)
      have HR := Lib.hid (Rd.below (by repeat (first | with_reducible exact HR.out | with_reducible apply Rd.drewN | with_reducible apply Rd.drew | with_reducible apply Rd.alloc)) b)
      have Oa := Lib.hid (Own.below (by repeat (first | with_reducible exact Oa.out | with_reducible apply Own.drewN | with_reducible apply Own.drew | with_reducible apply Own.alloc)) b)
      have O2 := Lib.hid (Own.below (by repeat (first | with_reducible exact O2.out | with_reducible apply Own.drewN | with_reducible apply Own.drew | with_reducible apply Own.alloc)) b)
      have Ob := Lib.hid (Own.below (by repeat (first | with_reducible exact Ob.out | with_reducible apply Own.drewN | with_reducible apply Own.drew | with_reducible apply Own.alloc)) b)
      have Ra := Lib.hid (Rd.below (by repeat (first | with_reducible exact Ra.out | with_reducible apply Rd.drewN | with_reducible apply Rd.drew | with_reducible apply Rd.alloc)) b)
      have Rb := Lib.hid (Rd.below (by repeat (first | with_reducible exact Rb.out | with_reducible apply Rd.drewN | with_reducible apply Rd.drew | with_reducible apply Rd.alloc)) b)
      have K0 : Hid (Box _ (w.heap.size) (c)) := Lib.hid (Box.below (by repeat (first | with_reducible exact K0.out | with_reducible apply Box.drewN | with_reducible apply Box.drew | (with_reducible refine Box.newAt ?_ ?_ <;> first | (simp; done) | rfl) | with_reducible apply Box.alloc)) b)
      try clear k0a k0b k0c k0d k0z
      have k0z := K0.out.lt
      obtain ⟨k0a, k0b, k0c, k0d⟩ := K0.out.cell
      clear b
      go_wp2_with fail
      refine ((mark_hand R (.slice pb m cb) _ 1 m _ HMm.out (by have := HL.out; omega) (by have := Sw5.out; have := Sw6.out; have := Sw7.out; have := Sw8.out; have := Sw9.out; have := Sw10.out; omega) Ob.out)).mono ?_
      rintro e w11 ⟨rfl, oM, gM⟩
      have Sw11 := Lib.hid gM.size
      have HB := Lib.hid (Below.grown HB.out gM HB.out.size (fun k hk => Nat.le_trans (by have h0 := Sw0.out; have h1 := Yw3K0.out; have h2 := Zw3.out; have h3 := Sw3.out; have h4 := Sw4.out; have h5 := Yw5K0.out; have h6 := Zw5.out; have h7 := Sw5.out; have h8 := Sw6.out; have h9 := Yw7K0.out; have h10 := Zw7.out; have h11 := Sw7.out; have h12 := Sw8.out; have h13 := Sw9.out; have h14 := Sw10.out; first | omega | (simp at *; omega)) (Lb.out k hk).1))
      have HR := Lib.hid (Rd.below HR0.out HB.out)
      have Oa := Lib.hid (Own.stay Oa.out gM La.out Lb.out (by have h0 := Sw0.out; have h1 := Yw3K0.out; have h2 := Zw3.out; have h3 := Sw3.out; have h4 := Sw4.out; have h5 := Yw5K0.out; have h6 := Zw5.out; have h7 := Sw5.out; have h8 := Sw6.out; have h9 := Yw7K0.out; have h10 := Zw7.out; have h11 := Sw7.out; have h12 := Sw8.out; have h13 := Sw9.out; have h14 := Sw10.out; first | omega | (simp at *; omega)))
      have Ob := Lib.hid oM
      have Ra := Lib.hid (Own.rd Oa.out)
      have K0 : Hid (Box _ (w.heap.size) (c)) := Lib.hid (Box.marked K0.out gM (fun k hk => Nat.lt_of_lt_of_le (by have h0 := Sw0.out; have h1 := Yw3K0.out; have h2 := Zw3.out; have h3 := Sw3.out; have h4 := Sw4.out; have h5 := Yw5K0.out; have h6 := Zw5.out; have h7 := Sw5.out; have h8 := Sw6.out; have h9 := Yw7K0.out; have h10 := Zw7.out; have h11 := Sw7.out; have h12 := Sw8.out; have h13 := Sw9.out; have h14 := Sw10.out; first | omega | (simp at *; omega)) (Lb.out k hk).1))
      try clear k0a k0b k0c k0d k0z
      have k0z := K0.out.lt
      obtain ⟨k0a, k0b, k0c, k0d⟩ := K0.out.cell
      clear oM gM
      go_wp2_with fail
      refine ((held_hand (.slice pb m cb) _ 1 m _ (by have := HL.out; omega) Ob.out)).mono ?_
      rintro e w12 ⟨rfl, b⟩
      have Sw12 := Lib.hid b.size
      have HB := Lib.hid (chain0 (w := w) (by repeat (first | with_reducible exact Below.refl _ _ | with_reducible exact HB.out | with_reducible apply Below.drew | with_reducible apply bdN | with_reducible refine Below.alloc ?_ (by first | exact Nat.le_refl _ | (simp; done) | (simp; omega) | (have := HB.out.size; simp at *; omega)) _ | with_reducible refine Below.setCell ?_ (by first | exact Nat.le_refl _ | (simp; done) | (simp; omega) | (have := HB.out.size; simp at *; omega)) _)) b)
      have HR := Lib.hid (Rd.below (by repeat (first | with_reducible exact HR.out | with_reducible apply Rd.drewN | with_reducible apply Rd.drew | with_reducible apply Rd.alloc)) b)
      have Oa := Lib.hid (Own.below (by repeat (first | with_reducible exact Oa.out | with_reducible apply Own.drewN | with_reducible apply Own.drew | with_reducible apply Own.alloc)) b)
      have Ob := Lib.hid (Own.below (by repeat (first | with_reducible exact Ob.out | with_reducible apply Own.drewN | with_reducible apply Own.drew | with_reducible apply Own.alloc)) b)
      have Ra := Lib.hid (Rd.below (by repeat (first | with_reducible exact Ra.out | with_reducible apply Rd.drewN | with_reducible apply Rd.drew | with_reducible apply Rd.alloc)) b)
      have K0 : Hid (Box _ (w.heap.size) (c)) := Lib.hid (Box.below (by repeat (first | with_reducible exact K0.out | with_reducible apply Box.drewN | with_reducible apply Box.drew | (with_reducible refine Box.newAt ?_ ?_ <;> first | (simp; done) | rfl) | with_reducible apply Box.alloc)) b)
      try clear k0a k0b k0c k0d k0z
      have k0z := K0.out.lt
      obtain ⟨k0a, k0b, k0c, k0d⟩ := K0.out.cell
      clear b
      go_upto_region 24 with fail
      go_cut [14, 15] (fun s14 s15 wx => ∃ pc cc, s14 = .slice pc m cc ∧ s15 = .bool ok ∧ Hid (Rd wx pc (flat R)) ∧ Hid (Rd wx pa (flat R)) ∧ Hid (Own wx 0 (.slice pb m cb) (marked 1 m)) ∧ Hid (Below w.heap.size w wx))
      case first =>
        go_region_held3 (fun w' => w'.cell? ⟨w.heap.size, 0, none⟩ = some (.int .i64 c.a) ∧ w'.cell? ⟨w.heap.size, 1, none⟩ = some (.int .i64 c.b) ∧ w'.cell? ⟨w.heap.size, 2, none⟩ = some (.int .i64 c.c) ∧ w'.cell? ⟨w.heap.size, 3, none⟩ = some (.int .i64 c.d)) (first | exact ⟨k0a, k0b, k0c, k0d⟩ | go_keep) (first
          | (go_at_call 21; refine (to_hand2 l p n cp _ HN.out (by omega) (by repeat (first | with_reducible exact HR.out | with_reducible apply Rd.drewN | with_reducible apply Rd.drew | with_reducible apply Rd.alloc))).mono ?_; rintro e wq ⟨p1, c1, rfl, o1, r1, hc1, b⟩; have HB := Lib.hid (chain0 (w := w) (by repeat (first | with_reducible exact Below.refl _ _ | with_reducible exact HB.out | with_reducible apply Below.drew | with_reducible apply bdN | with_reducible refine Below.alloc ?_ (by first | exact Nat.le_refl _ | (simp; done) | (simp; omega) | (have := HB.out.size; simp at *; omega)) _ | with_reducible refine Below.setCell ?_ (by first | exact Nat.le_refl _ | (simp; done) | (simp; omega) | (have := HB.out.size; simp at *; omega)) _)) b); have HR := Lib.hid (Rd.below (by repeat (first | with_reducible exact HR.out | with_reducible apply Rd.drewN | with_reducible apply Rd.drew | with_reducible apply Rd.alloc)) b); have Ob := Lib.hid (Own.below (by repeat (first | with_reducible exact Ob.out | with_reducible apply Own.drewN | with_reducible apply Own.drew | with_reducible apply Own.alloc)) b); have Ra := Lib.hid (Rd.below (by repeat (first | with_reducible exact Ra.out | with_reducible apply Rd.drewN | with_reducible apply Rd.drew | with_reducible apply Rd.alloc)) b); have K0 : Hid (Box _ (w.heap.size) (c)) := Lib.hid (Box.below (by repeat (first | with_reducible exact K0.out | with_reducible apply Box.drewN | with_reducible apply Box.drew | (with_reducible refine Box.newAt ?_ ?_ <;> first | (simp; done) | rfl) | with_reducible apply Box.alloc)) b); obtain ⟨k0a, k0b, k0c, k0d⟩ := K0.out.cell; have k0z := K0.out.lt; have R1 := Lib.hid r1; clear b r1 o1)
          | (go_at_call 22; refine (to_a4 c _).mono ?_; rintro e wq ⟨rfl, b⟩; have HB := Lib.hid (chain0 (w := w) (by repeat (first | with_reducible exact Below.refl _ _ | with_reducible exact HB.out | with_reducible apply Below.drew | with_reducible apply bdN | with_reducible refine Below.alloc ?_ (by first | exact Nat.le_refl _ | (simp; done) | (simp; omega) | (have := HB.out.size; simp at *; omega)) _ | with_reducible refine Below.setCell ?_ (by first | exact Nat.le_refl _ | (simp; done) | (simp; omega) | (have := HB.out.size; simp at *; omega)) _)) b); have HR := Lib.hid (Rd.below (by repeat (first | with_reducible exact HR.out | with_reducible apply Rd.drewN | with_reducible apply Rd.drew | with_reducible apply Rd.alloc)) b); have Ob := Lib.hid (Own.below (by repeat (first | with_reducible exact Ob.out | with_reducible apply Own.drewN | with_reducible apply Own.drew | with_reducible apply Own.alloc)) b); have Ra := Lib.hid (Rd.below (by repeat (first | with_reducible exact Ra.out | with_reducible apply Rd.drewN | with_reducible apply Rd.drew | with_reducible apply Rd.alloc)) b); have K0 : Hid (Box _ (w.heap.size) (c)) := Lib.hid (Box.below (by repeat (first | with_reducible exact K0.out | with_reducible apply Box.drewN | with_reducible apply Box.drew | (with_reducible refine Box.newAt ?_ ?_ <;> first | (simp; done) | rfl) | with_reducible apply Box.alloc)) b); obtain ⟨k0a, k0b, k0c, k0d⟩ := K0.out.cell; have k0z := K0.out.lt; have R1 := Lib.hid (Rd.below (by repeat (first | with_reducible exact R1.out | with_reducible apply Rd.drewN | with_reducible apply Rd.drew | with_reducible apply Rd.alloc)) b); clear b)
          | (go_at_call 30; refine (HI.out p1 n c1 _ HN.out (by omega) (by repeat (first | with_reducible exact R1.out | with_reducible apply Rd.drewN | with_reducible apply Rd.drew | with_reducible apply Rd.alloc)) hc1).mono ?_; rintro e wq ⟨vc, rfl, oc, b⟩; obtain ⟨pc, cc, rfl, hcc, rc, _⟩ := oc.form; rw [HMm.out] at oc hcc ⊢; have HB := Lib.hid (chain0 (w := w) (by repeat (first | with_reducible exact Below.refl _ _ | with_reducible exact HB.out | with_reducible apply Below.drew | with_reducible apply bdN | with_reducible refine Below.alloc ?_ (by first | exact Nat.le_refl _ | (simp; done) | (simp; omega) | (have := HB.out.size; simp at *; omega)) _ | with_reducible refine Below.setCell ?_ (by first | exact Nat.le_refl _ | (simp; done) | (simp; omega) | (have := HB.out.size; simp at *; omega)) _)) b); have HR := Lib.hid (Rd.below (by repeat (first | with_reducible exact HR.out | with_reducible apply Rd.drewN | with_reducible apply Rd.drew | with_reducible apply Rd.alloc)) b); have Ob := Lib.hid (Own.below (by repeat (first | with_reducible exact Ob.out | with_reducible apply Own.drewN | with_reducible apply Own.drew | with_reducible apply Own.alloc)) b); have Ra := Lib.hid (Rd.below (by repeat (first | with_reducible exact Ra.out | with_reducible apply Rd.drewN | with_reducible apply Rd.drew | with_reducible apply Rd.alloc)) b); have K0 : Hid (Box _ (w.heap.size) (c)) := Lib.hid (Box.below (by repeat (first | with_reducible exact K0.out | with_reducible apply Box.drewN | with_reducible apply Box.drew | (with_reducible refine Box.newAt ?_ ?_ <;> first | (simp; done) | rfl) | with_reducible apply Box.alloc)) b); obtain ⟨k0a, k0b, k0c, k0d⟩ := K0.out.cell; have k0z := K0.out.lt; have Rc := Lib.hid rc; clear b oc hcc rc))
        all_goals
          go_wp2_with fail
          go_meet
          case rel => exact ⟨_, _, rfl, rfl, Lib.hid (by repeat (first | with_reducible exact Rc.out | with_reducible apply Rd.drewN | with_reducible apply Rd.drew | with_reducible apply Rd.alloc)), Lib.hid (by repeat (first | with_reducible exact Ra.out | with_reducible apply Rd.drewN | with_reducible apply Rd.drew | with_reducible apply Rd.alloc)), Lib.hid (by have h := Ob.out.base (Nat.zero_le _); repeat (first | with_reducible exact h | with_reducible apply Own.drewN | with_reducible apply Own.drew)), Lib.hid (by repeat (first | with_reducible exact Below.refl _ _ | with_reducible exact HB.out | with_reducible apply Below.drew | with_reducible apply bdN | with_reducible refine Below.alloc ?_ (by first | exact Nat.le_refl _ | (simp; done) | (simp; omega) | (have := HB.out.size; simp at *; omega)) _ | with_reducible refine Below.setCell ?_ (by first | exact Nat.le_refl _ | (simp; done) | (simp; omega) | (have := HB.out.size; simp at *; omega)) _))⟩
      case rest =>
        clear HB HR K0 k0a k0b k0c k0d k0z Ra Ob
        obtain ⟨pc, cc, rfl, rfl, Rc, Ra, Ob, HB⟩ := hcut
        go_wp2_with fail
        refine ((eq_hand R pc pa m cc ca _ HMm.out (by have := HL.out; omega) Rc.out Ra.out)).mono ?_
        rintro e w13 ⟨rfl, b⟩
        have Sw13 := Lib.hid b.size
        have HB := Lib.hid (chain0 (w := w) (by repeat (first | with_reducible exact Below.refl _ _ | with_reducible exact HB.out | with_reducible apply Below.drew | with_reducible apply bdN | with_reducible refine Below.alloc ?_ (by first | exact Nat.le_refl _ | (simp; done) | (simp; omega) | (have := HB.out.size; simp at *; omega)) _ | with_reducible refine Below.setCell ?_ (by first | exact Nat.le_refl _ | (simp; done) | (simp; omega) | (have := HB.out.size; simp at *; omega)) _)) b)
        have Ra := Lib.hid (Rd.below (by repeat (first | with_reducible exact Ra.out | with_reducible apply Rd.drewN | with_reducible apply Rd.drew | with_reducible apply Rd.alloc)) b)
        have Ob := Lib.hid (Own.below (by repeat (first | with_reducible exact Ob.out | with_reducible apply Own.drewN | with_reducible apply Own.drew | with_reducible apply Own.alloc)) b)
        clear b
        go_wp2_with fail
        refine ((held_hand (.slice pb m cb) _ 1 m _ (by have := HL.out; omega) Ob.out)).mono ?_
        rintro e w14 ⟨rfl, b⟩
        have Sw14 := Lib.hid b.size
        have HB := Lib.hid (chain0 (w := w) (by repeat (first | with_reducible exact Below.refl _ _ | with_reducible exact HB.out | with_reducible apply Below.drew | with_reducible apply bdN | with_reducible refine Below.alloc ?_ (by first | exact Nat.le_refl _ | (simp; done) | (simp; omega) | (have := HB.out.size; simp at *; omega)) _ | with_reducible refine Below.setCell ?_ (by first | exact Nat.le_refl _ | (simp; done) | (simp; omega) | (have := HB.out.size; simp at *; omega)) _)) b)
        have Ra := Lib.hid (Rd.below (by repeat (first | with_reducible exact Ra.out | with_reducible apply Rd.drewN | with_reducible apply Rd.drew | with_reducible apply Rd.alloc)) b)
        have Ob := Lib.hid (Own.below (by repeat (first | with_reducible exact Ob.out | with_reducible apply Own.drewN | with_reducible apply Own.drew | with_reducible apply Own.alloc)) b)
        clear b
        go_wp2_with fail
        go_ret
        exact ⟨rfl, by repeat (first | with_reducible exact Below.refl _ _ | with_reducible exact HB.out | with_reducible apply Below.drew | with_reducible apply bdN | with_reducible refine Below.alloc ?_ (by first | exact Nat.le_refl _ | (simp; done) | (simp; omega) | (have := HB.out.size; simp at *; omega)) _ | with_reducible refine Below.setCell ?_ (by first | exact Nat.le_refl _ | (simp; done) | (simp; omega) | (have := HB.out.size; simp at *; omega)) _)⟩
  · have z0 := szLeft_no hs
    go_enter Try.func6, Try.ntmps6
    go_wp2_with fail
    refine (sz_hand p n cp 1048576 _ (by omega) (by omega) HM.out).mono ?_
    rintro e w' ⟨rfl, rfl⟩
    go_wp2_with fail
    go_ret
    exact ⟨rfl, by repeat (first | with_reducible exact Below.refl _ _ | with_reducible exact HB.out | with_reducible apply Below.drew | with_reducible apply bdN | with_reducible refine Below.alloc ?_ (by first | exact Nat.le_refl _ | (simp; done) | (simp; omega) | (have := HB.out.size; simp at *; omega)) _ | with_reducible refine Below.setCell ?_ (by first | exact Nat.le_refl _ | (simp; done) | (simp; omega) | (have := HB.out.size; simp at *; omega)) _)⟩

theorem own : ownKnob Try.prog.godebug = none := by kernel_rfl
theorem laidOut : laidOutB Try.prog = true := by kernel_rfl
set_option maxRecDepth 100000 in
set_option maxHeartbeats 1000000 in
theorem lifted (os : Os) (started : os.Started) (H : Type) (enc : TypeId × Value → H) :
    ReturnsInHanded {} Try.checked os 6 .any (Rows.fnExactDropCardSpec.pre6 enc Try.prog Try.f6 Rows.fnExactDropCardRow.domain false) (Rows.fnExactDropCardSpec.post enc Try.prog Try.f6 false true false false) := by
  refine returnsInHanded_of_change (C := Try.checked) own started (by kernel_rfl) Try.func6
    (ChangeSpec.witness6 (enc := enc) (C := Try.checked) false ⟨#[], #[.slice none 0 0, .agg #[.int .i64 0, .int .i64 0, .int .i64 0, .int .i64 0]], []⟩ 8 (by kernel_rfl) (by kernel_rfl) (by kernel_rfl) (by kernel_rfl)) ?_
  intro W base args ds gs before hval0 hW hcnd _
  have hval : ∀ (j : Nat) t v, Try.f6.params[j]? = some t → args[j]? = some v → Value.okWide Try.prog W .any base t v := hval0
  have hW' := hW
  obtain ⟨p, q, hA0, hV, rfl, hfz, hnd⟩ := hW
  have hA : DataW.TrodAll enc Try.prog W 0 (fun _ => true) true Try.f6.params.toList args.toList ds p := hA0
  rw [Try.params6] at hA hval
  have hR := fun (W' : World) (hb : Below W.heap.size W W') => frame.still_all laidOut hb _ _ _ _ (by decide +kernel) hA
  obtain ⟨v0, vs0, d0, ds0, p0, q0, hargs, rfl, hp, h0, r0⟩ := trodAll_cons hA
  obtain ⟨v1, vs1, d1, ds1, p1, q1, rfl, rfl, hp1, h1, r1⟩ := trodAll_cons r0
  obtain ⟨rfl, rfl, hpn⟩ := trodAll_nil r1
  obtain rfl : args = #[v0, v1] := by cases args; simp_all
  obtain ⟨rfl, rfl⟩ := trodVars_none hV
  obtain ⟨b0, n0, c0, l0, rfl, w0⟩ := frame.open_hand Try.underlying29 Try.underlying30 Try.underlying3 (by kernel_rfl) (by kernel_rfl) (hval 0 29 v0 rfl rfl) h0
  obtain ⟨a1, rfl, w1⟩ := frame.open_a4w Try.underlying30 Try.underlying3 (by kernel_rfl) (by kernel_rfl) (hval 1 30 v1 rfl rfl) h1
  clear hA0 hval0
  simp only [List.append_nil] at hW'
  refine (walk b0 n0 c0 l0 a1 W w0 w1).mono fun e W' ⟨he, hw⟩ => ?_
  subst he
  exact ⟨_, rfl, _, _, _, [], p, [], hW', trodAll_mk1 (shut_bool Try.underlying4 _), hR W' hw, rfl, hw.frame _, fun h => by cases h⟩

theorem over : Rows.fnExactDropCardRow.holds Try.pinned (OpenSpec.ofChange Rows.fnExactDropCardSpec) :=
  OpenClaim.holds_of_wide 6 Try.f6 rfl rfl rfl rfl rfl rfl rfl ⟨rfl, rfl, rfl, rfl, rfl⟩ rfl rfl rfl rfl rfl (by kernel_rfl) Try.func6 (by kernel_rfl)
    (of_decide_eq_true (by kernel_rfl)) (by unfold Func.isWrapper; first | (rw [if_pos (by decide +kernel)]; kernel_rfl) | (rw [if_neg (by decide +kernel)]; exact ⟨rfl, rfl⟩))
    (fun os started H enc _ => lifted os started H enc)

theorem proved : Rows.FnExactDropCardSaid := over
end Go.Proofs.Ytbimbaogjknboab.lawDropCard