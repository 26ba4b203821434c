/- CardPlace: the program and the model alike. -/
import Derived.Test.YtghjopgbhodccaaQi
import Derived.Test.YtghjopgbhodccaaQj
import Derived.Deep.RegionHeld3
namespace Go.Proofs.Ytghjopgbhodccaa.deal
open Go.RowKit
open cards
set_option linter.unusedVariables false

noncomputable def cpR (s : Int) (c : Cd) : Int × Bool := if isSd s = true ∧ c.ok = true then (posn (pile s) c, true) else (0, false)
set_option maxRecDepth 100000 in
set_option maxHeartbeats 2000000 in
theorem impl_cp (s : Int) (c : Cd) (w : World) :
    Calls Try.prog 57 #[.int .i64 s, c.val] w fun e w' => e = .returned (.tuple #[.int .i64 (cpR s c).1, .bool (cpR s c).2]) ∧ Below w.heap.size w w' := by
  go_enter Try.func57, Try.ntmps57
  go_wp2_with fail
  refine ((is_seed s _)).mono ?_
  rintro e w1 ⟨rfl, b⟩
  have Sw1 := Lib.hid b.size
  have HB := Lib.hid (chain0 (w := w) (by repeat (first | with_reducible exact Below.refl _ _ | with_reducible exact HB.out | with_reducible apply Below.drew | with_reducible apply bdN | with_reducible refine Below.alloc ?_ (by first | exact Nat.le_refl _ | (simp; done) | (simp; omega) | (have := HB.out.size; simp at *; omega)) _ | with_reducible refine Below.setCell ?_ (by first | exact Nat.le_refl _ | (simp; done) | (simp; omega) | (have := HB.out.size; simp at *; omega)) _)) b)
  have K0 : Hid (Box _ (w.heap.size) (c)) := Lib.hid (Box.below (by repeat (first | with_reducible exact K0.out | with_reducible apply Box.drewN | with_reducible apply Box.drew | (with_reducible refine Box.newAt ?_ ?_ <;> first | (simp; done) | rfl) | with_reducible apply Box.alloc)) b)
  try clear k0a k0b k0c k0d k0z
  have k0z := K0.out.lt
  obtain ⟨k0a, k0b, k0c, k0d⟩ := K0.out.cell
  clear b
  cases hs : isSd s
  · have HT := Lib.hid (show cpR s c = (0, false) by unfold cpR; rw [if_neg (by simp [hs])])
    go_wp2_with fail
    go_ret2
    exact ⟨ret_ib (by rw [HT.out]), by repeat (first | with_reducible exact Below.refl _ _ | with_reducible exact HB.out | with_reducible apply Below.drew | with_reducible apply bdN | with_reducible refine Below.alloc ?_ (by first | exact Nat.le_refl _ | (simp; done) | (simp; omega) | (have := HB.out.size; simp at *; omega)) _ | with_reducible refine Below.setCell ?_ (by first | exact Nat.le_refl _ | (simp; done) | (simp; omega) | (have := HB.out.size; simp at *; omega)) _)⟩
  · go_wp2_with fail
    refine ((is_card c _)).mono ?_
    rintro e w2 ⟨rfl, b⟩
    have Sw2 := Lib.hid b.size
    have HB := Lib.hid (chain0 (w := w) (by repeat (first | with_reducible exact Below.refl _ _ | with_reducible exact HB.out | with_reducible apply Below.drew | with_reducible apply bdN | with_reducible refine Below.alloc ?_ (by first | exact Nat.le_refl _ | (simp; done) | (simp; omega) | (have := HB.out.size; simp at *; omega)) _ | with_reducible refine Below.setCell ?_ (by first | exact Nat.le_refl _ | (simp; done) | (simp; omega) | (have := HB.out.size; simp at *; omega)) _)) b)
    have K0 : Hid (Box _ (w.heap.size) (c)) := Lib.hid (Box.below (by repeat (first | with_reducible exact K0.out | with_reducible apply Box.drewN | with_reducible apply Box.drew | (with_reducible refine Box.newAt ?_ ?_ <;> first | (simp; done) | rfl) | with_reducible apply Box.alloc)) b)
    try clear k0a k0b k0c k0d k0z
    have k0z := K0.out.lt
    obtain ⟨k0a, k0b, k0c, k0d⟩ := K0.out.cell
    clear b
    cases hc : c.ok
    · have HT := Lib.hid (show cpR s c = (0, false) by unfold cpR; rw [if_neg (by simp [hc])])
      go_wp2_with fail
      go_ret2
      exact ⟨ret_ib (by rw [HT.out]), by repeat (first | with_reducible exact Below.refl _ _ | with_reducible exact HB.out | with_reducible apply Below.drew | with_reducible apply bdN | with_reducible refine Below.alloc ?_ (by first | exact Nat.le_refl _ | (simp; done) | (simp; omega) | (have := HB.out.size; simp at *; omega)) _ | with_reducible refine Below.setCell ?_ (by first | exact Nat.le_refl _ | (simp; done) | (simp; omega) | (have := HB.out.size; simp at *; omega)) _)⟩
    · have HT := Lib.hid (show cpR s c = (posn (pile s) c, true) by unfold cpR; rw [if_pos ⟨hs, hc⟩])
      have HS := Lib.hid (isSd_iff.1 hs)
      have HC := Lib.hid (wfc_ok hc)
      have HW := Lib.hid (wfc_all (pile_ok (isSd_iff.1 hs)))
      have HPl := Lib.hid (pile_len s)
      obtain ⟨r, hr⟩ : ∃ r, posn (pile s) c = r := ⟨_, rfl⟩
      have HIx := Lib.hid (fun (p : Option Addr) (cp : Nat) (w : World) (hr : Rd w p (flat (pile s))) => index_cd (pile s) c p 81 cp w (pile_len s) (by omega) hr HW.out HC.out)
      rw [hr] at HIx HT
      clear hs hc hr
      go_upto_region 3 with fail
      go_region_held3 (fun w' => w'.cell? ⟨w.heap.size, 0, none⟩ = some (.int .i64 c.a) ∧ w'.cell? ⟨w.heap.size, 1, none⟩ = some (.int .i64 c.b) ∧ w'.cell? ⟨w.heap.size, 2, none⟩ = some (.int .i64 c.c) ∧ w'.cell? ⟨w.heap.size, 3, none⟩ = some (.int .i64 c.d)) (first | exact ⟨k0a, k0b, k0c, k0d⟩ | go_keep) (first
        | (go_at_call 63; refine (pile_from s _ HS.out).mono ?_; rintro e wq ⟨u, rfl, hu, b⟩; obtain ⟨pu, cu, rfl, hcu, ru⟩ := hu.form; rw [HPl.out] at hu hcu ⊢; have HB := Lib.hid (chain0 (w := w) (by repeat (first | with_reducible exact Below.refl _ _ | with_reducible exact HB.out | with_reducible apply Below.drew | with_reducible apply bdN | with_reducible refine Below.alloc ?_ (by first | exact Nat.le_refl _ | (simp; done) | (simp; omega) | (have := HB.out.size; simp at *; omega)) _ | with_reducible refine Below.setCell ?_ (by first | exact Nat.le_refl _ | (simp; done) | (simp; omega) | (have := HB.out.size; simp at *; omega)) _)) b); have K0 : Hid (Box _ (w.heap.size) (c)) := Lib.hid (Box.below (by repeat (first | with_reducible exact K0.out | with_reducible apply Box.drewN | with_reducible apply Box.drew | (with_reducible refine Box.newAt ?_ ?_ <;> first | (simp; done) | rfl) | with_reducible apply Box.alloc)) b); obtain ⟨k0a, k0b, k0c, k0d⟩ := K0.out.cell; have k0z := K0.out.lt; have R1 := Lib.hid ru; clear b hu hcu ru)
        | (go_at_call 91; refine (HIx.out _ _ _ (by repeat (first | with_reducible exact R1.out | with_reducible apply Rd.drewN | with_reducible apply Rd.drew | with_reducible apply Rd.alloc))).mono ?_; rintro e wq ⟨rfl, b⟩; have HB := Lib.hid (chain0 (w := w) (by repeat (first | with_reducible exact Below.refl _ _ | with_reducible exact HB.out | with_reducible apply Below.drew | with_reducible apply bdN | with_reducible refine Below.alloc ?_ (by first | exact Nat.le_refl _ | (simp; done) | (simp; omega) | (have := HB.out.size; simp at *; omega)) _ | with_reducible refine Below.setCell ?_ (by first | exact Nat.le_refl _ | (simp; done) | (simp; omega) | (have := HB.out.size; simp at *; omega)) _)) b); have K0 : Hid (Box _ (w.heap.size) (c)) := Lib.hid (Box.below (by repeat (first | with_reducible exact K0.out | with_reducible apply Box.drewN | with_reducible apply Box.drew | (with_reducible refine Box.newAt ?_ ?_ <;> first | (simp; done) | rfl) | with_reducible apply Box.alloc)) b); obtain ⟨k0a, k0b, k0c, k0d⟩ := K0.out.cell; have k0z := K0.out.lt; clear b))
      all_goals
        go_wp2_with fail
        go_ret2
        exact ⟨ret_ib (by rw [HT.out]), by repeat (first | with_reducible exact Below.refl _ _ | with_reducible exact HB.out | with_reducible apply Below.drew | with_reducible apply bdN | with_reducible refine Below.alloc ?_ (by first | exact Nat.le_refl _ | (simp; done) | (simp; omega) | (have := HB.out.size; simp at *; omega)) _ | with_reducible refine Below.setCell ?_ (by first | exact Nat.le_refl _ | (simp; done) | (simp; omega) | (have := HB.out.size; simp at *; omega)) _)⟩
set_option maxRecDepth 100000 in
set_option maxHeartbeats 2000000 in
theorem spec_cp (s : Int) (c : Cd) (w : World) :
    Calls Try.prog 55 #[.int .i64 s, c.val] w fun e w' => e = .returned (.tuple #[.int .i64 (cpR s c).1, .bool (cpR s c).2]) ∧ Below w.heap.size w w' := by
  go_enter Try.func55, Try.ntmps55
  go_wp2_with fail
  refine ((l4_seed s _)).mono ?_
  rintro e w1 ⟨rfl, b⟩
  have Sw1 := Lib.hid b.size
  have HB := Lib.hid (chain0 (w := w) (by repeat (first | with_reducible exact Below.refl _ _ | with_reducible exact HB.out | with_reducible apply Below.drew | with_reducible apply bdN | with_reducible refine Below.alloc ?_ (by first | exact Nat.le_refl _ | (simp; done) | (simp; omega) | (have := HB.out.size; simp at *; omega)) _ | with_reducible refine Below.setCell ?_ (by first | exact Nat.le_refl _ | (simp; done) | (simp; omega) | (have := HB.out.size; simp at *; omega)) _)) b)
  have K0 : Hid (Box _ (w.heap.size) (c)) := Lib.hid (Box.below (by repeat (first | with_reducible exact K0.out | with_reducible apply Box.drewN | with_reducible apply Box.drew | (with_reducible refine Box.newAt ?_ ?_ <;> first | (simp; done) | rfl) | with_reducible apply Box.alloc)) b)
  try clear k0a k0b k0c k0d k0z
  have k0z := K0.out.lt
  obtain ⟨k0a, k0b, k0c, k0d⟩ := K0.out.cell
  clear b
  cases hs : isSd s
  · have HT := Lib.hid (show cpR s c = (0, false) by unfold cpR; rw [if_neg (by simp [hs])])
    go_wp2_with fail
    go_ret2
    exact ⟨ret_ib (by rw [HT.out]), by repeat (first | with_reducible exact Below.refl _ _ | with_reducible exact HB.out | with_reducible apply Below.drew | with_reducible apply bdN | with_reducible refine Below.alloc ?_ (by first | exact Nat.le_refl _ | (simp; done) | (simp; omega) | (have := HB.out.size; simp at *; omega)) _ | with_reducible refine Below.setCell ?_ (by first | exact Nat.le_refl _ | (simp; done) | (simp; omega) | (have := HB.out.size; simp at *; omega)) _)⟩
  · go_wp2_with fail
    refine ((l2_card c _)).mono ?_
    rintro e w2 ⟨rfl, b⟩
    have Sw2 := Lib.hid b.size
    have HB := Lib.hid (chain0 (w := w) (by repeat (first | with_reducible exact Below.refl _ _ | with_reducible exact HB.out | with_reducible apply Below.drew | with_reducible apply bdN | with_reducible refine Below.alloc ?_ (by first | exact Nat.le_refl _ | (simp; done) | (simp; omega) | (have := HB.out.size; simp at *; omega)) _ | with_reducible refine Below.setCell ?_ (by first | exact Nat.le_refl _ | (simp; done) | (simp; omega) | (have := HB.out.size; simp at *; omega)) _)) b)
    have K0 : Hid (Box _ (w.heap.size) (c)) := Lib.hid (Box.below (by repeat (first | with_reducible exact K0.out | with_reducible apply Box.drewN | with_reducible apply Box.drew | (with_reducible refine Box.newAt ?_ ?_ <;> first | (simp; done) | rfl) | with_reducible apply Box.alloc)) b)
    try clear k0a k0b k0c k0d k0z
    have k0z := K0.out.lt
    obtain ⟨k0a, k0b, k0c, k0d⟩ := K0.out.cell
    clear b
    cases hc : c.ok
    · have HT := Lib.hid (show cpR s c = (0, false) by unfold cpR; rw [if_neg (by simp [hc])])
      go_wp2_with fail
      go_ret2
      exact ⟨ret_ib (by rw [HT.out]), by repeat (first | with_reducible exact Below.refl _ _ | with_reducible exact HB.out | with_reducible apply Below.drew | with_reducible apply bdN | with_reducible refine Below.alloc ?_ (by first | exact Nat.le_refl _ | (simp; done) | (simp; omega) | (have := HB.out.size; simp at *; omega)) _ | with_reducible refine Below.setCell ?_ (by first | exact Nat.le_refl _ | (simp; done) | (simp; omega) | (have := HB.out.size; simp at *; omega)) _)⟩
    · have HT := Lib.hid (show cpR s c = (posn (pile s) c, true) by unfold cpR; rw [if_pos ⟨hs, hc⟩])
      have HS := Lib.hid (isSd_iff.1 hs)
      have HC := Lib.hid (wfc_ok hc)
      have HW := Lib.hid (wfc_all (pile_ok (isSd_iff.1 hs)))
      have HPl := Lib.hid (pile_len s)
      obtain ⟨r, hr⟩ : ∃ r, posn (pile s) c = r := ⟨_, rfl⟩
      have HIx := Lib.hid (fun (p : Option Addr) (cp : Nat) (w : World) (hr : Rd w p (flat (pile s))) => place_any (pile s) c p 81 cp w (pile_len s) (by omega) hr HW.out HC.out)
      rw [hr] at HIx HT
      clear hs hc hr
      go_upto_region 3 with fail
      go_region_held3 (fun w' => w'.cell? ⟨w.heap.size, 0, none⟩ = some (.int .i64 c.a) ∧ w'.cell? ⟨w.heap.size, 1, none⟩ = some (.int .i64 c.b) ∧ w'.cell? ⟨w.heap.size, 2, none⟩ = some (.int .i64 c.c) ∧ w'.cell? ⟨w.heap.size, 3, none⟩ = some (.int .i64 c.d)) (first | exact ⟨k0a, k0b, k0c, k0d⟩ | go_keep) (first
        | (go_at_call 62; refine (l4_pile s _ HS.out).mono ?_; rintro e wq ⟨u, rfl, hu, b⟩; obtain ⟨pu, cu, rfl, hcu, ru⟩ := hu.form; rw [HPl.out] at hu hcu ⊢; have HB := Lib.hid (chain0 (w := w) (by repeat (first | with_reducible exact Below.refl _ _ | with_reducible exact HB.out | with_reducible apply Below.drew | with_reducible apply bdN | with_reducible refine Below.alloc ?_ (by first | exact Nat.le_refl _ | (simp; done) | (simp; omega) | (have := HB.out.size; simp at *; omega)) _ | with_reducible refine Below.setCell ?_ (by first | exact Nat.le_refl _ | (simp; done) | (simp; omega) | (have := HB.out.size; simp at *; omega)) _)) b); have K0 : Hid (Box _ (w.heap.size) (c)) := Lib.hid (Box.below (by repeat (first | with_reducible exact K0.out | with_reducible apply Box.drewN | with_reducible apply Box.drew | (with_reducible refine Box.newAt ?_ ?_ <;> first | (simp; done) | rfl) | with_reducible apply Box.alloc)) b); obtain ⟨k0a, k0b, k0c, k0d⟩ := K0.out.cell; have k0z := K0.out.lt; have R1 := Lib.hid ru; clear b hu hcu ru)
        | (go_at_call 89; refine (HIx.out _ _ _ (by repeat (first | with_reducible exact R1.out | with_reducible apply Rd.drewN | with_reducible apply Rd.drew | with_reducible apply Rd.alloc))).mono ?_; rintro e wq ⟨rfl, b⟩; have HB := Lib.hid (chain0 (w := w) (by repeat (first | with_reducible exact Below.refl _ _ | with_reducible exact HB.out | with_reducible apply Below.drew | with_reducible apply bdN | with_reducible refine Below.alloc ?_ (by first | exact Nat.le_refl _ | (simp; done) | (simp; omega) | (have := HB.out.size; simp at *; omega)) _ | with_reducible refine Below.setCell ?_ (by first | exact Nat.le_refl _ | (simp; done) | (simp; omega) | (have := HB.out.size; simp at *; omega)) _)) b); have K0 : Hid (Box _ (w.heap.size) (c)) := Lib.hid (Box.below (by repeat (first | with_reducible exact K0.out | with_reducible apply Box.drewN | with_reducible apply Box.drew | (with_reducible refine Box.newAt ?_ ?_ <;> first | (simp; done) | rfl) | with_reducible apply Box.alloc)) b); obtain ⟨k0a, k0b, k0c, k0d⟩ := K0.out.cell; have k0z := K0.out.lt; clear b))
      all_goals
        go_wp2_with fail
        go_ret2
        exact ⟨ret_ib (by rw [HT.out]), by repeat (first | with_reducible exact Below.refl _ _ | with_reducible exact HB.out | with_reducible apply Below.drew | with_reducible apply bdN | with_reducible refine Below.alloc ?_ (by first | exact Nat.le_refl _ | (simp; done) | (simp; omega) | (have := HB.out.size; simp at *; omega)) _ | with_reducible refine Below.setCell ?_ (by first | exact Nat.le_refl _ | (simp; done) | (simp; omega) | (have := HB.out.size; simp at *; omega)) _)⟩
end Go.Proofs.Ytghjopgbhodccaa.deal
