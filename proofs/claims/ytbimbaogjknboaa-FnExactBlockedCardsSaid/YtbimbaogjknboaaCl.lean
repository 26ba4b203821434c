/- CapLines: the program and the model alike. -/
import Derived.Test.YtbimbaogjknboaaPw
import Derived.Test.YtbimbaogjknboaaLm
namespace Go.Proofs.Ytbimbaogjknboaa.cards
open Go.RowKit
set_option linter.unusedVariables false

noncomputable def clR (l : List Cd) (c : Cd) : List A2 × Bool := if handB l = true ∧ c.ok = true ∧ there l c = false then (prs l c l.length, true) else ([], false)
theorem clR_len (l : List Cd) (c : Cd) : (clR l c).1.length ≤ 1000 := by
  unfold clR
  split
  · rename_i h
    have h1 := (handB_true.1 h.1).1
    have h2 := prs_le l c l.length
    show (prs l c l.length).length ≤ _
    omega
  · simp
set_option maxRecDepth 100000 in
set_option maxHeartbeats 2000000 in
theorem l2_has (l : List Cd) (c : Cd) (p : Option Addr) (n cp : Nat) (w : World) (hn : l.length = n) (hl : n ≤ 1000) (hr : Rd w p (flat l)) (hok : l.all Cd.ok = true) (hc : c.ok = true) (hs : sorted l) :
    Calls Try.prog 85 #[.slice p n cp, c.val] w fun e w' => e = .returned (.bool (there l c)) ∧ Below w.heap.size w w' := by
  have HN := Lib.hid hn
  have HR := Lib.hid hr
  have HP := Lib.hid (fun w' (hw : Rd w' p (flat l)) => l2_place l c p n cp w' hn hl hw hok hc hs)
  clear hn hr hok hc hs
  go_enter Try.func85, Try.ntmps85
  cases ht : there l c
  · have HQ := HP.out
    unfold place at HQ
    rw [if_neg (by simp [ht])] at HQ
    have HQ2 := Lib.hid HQ
    clear HQ HP ht
    go_wp2_with fail
    refine ((HQ2.out _ (by repeat (first | with_reducible exact HR.out | with_reducible apply Rd.drewN | with_reducible apply Rd.drew | with_reducible apply Rd.alloc)))).mono ?_
    rintro e w1 ⟨rfl, b⟩
    have Sw1 := Lib.hid b.size
    have HB := Lib.hid (chain0 (w := w) (by repeat (first | with_reducible exact Below.refl _ _ | with_reducible exact HB.out | with_reducible apply Below.drew | with_reducible apply bdN | with_reducible refine Below.alloc ?_ (by first | exact Nat.le_refl _ | (simp; done) | (simp; omega) | (have := HB.out.size; simp at *; omega)) _ | with_reducible refine Below.setCell ?_ (by first | exact Nat.le_refl _ | (simp; done) | (simp; omega) | (have := HB.out.size; simp at *; omega)) _)) b)
    have HR := Lib.hid (Rd.below (by repeat (first | with_reducible exact HR.out | with_reducible apply Rd.drewN | with_reducible apply Rd.drew | with_reducible apply Rd.alloc)) b)
    have K0 : Hid (Box _ (w.heap.size) (c)) := Lib.hid (Box.below (by repeat (first | with_reducible exact K0.out | with_reducible apply Box.drewN | with_reducible apply Box.drew | (with_reducible refine Box.newAt ?_ ?_ <;> first | (simp; done) | rfl) | with_reducible apply Box.alloc)) b)
    try clear k0a k0b k0c k0d k0z
    have k0z := K0.out.lt
    obtain ⟨k0a, k0b, k0c, k0d⟩ := K0.out.cell
    clear b
    go_wp2_with fail
    go_ret
    exact ⟨rfl, by repeat (first | with_reducible exact Below.refl _ _ | with_reducible exact HB.out | with_reducible apply Below.drew | with_reducible apply bdN | with_reducible refine Below.alloc ?_ (by first | exact Nat.le_refl _ | (simp; done) | (simp; omega) | (have := HB.out.size; simp at *; omega)) _ | with_reducible refine Below.setCell ?_ (by first | exact Nat.le_refl _ | (simp; done) | (simp; omega) | (have := HB.out.size; simp at *; omega)) _)⟩
  · have HQ := HP.out
    unfold place at HQ
    rw [if_pos ht] at HQ
    obtain ⟨q, hq⟩ : ∃ q, less l c = q := ⟨_, rfl⟩
    rw [hq] at HQ
    have HQ2 := Lib.hid HQ
    clear HQ HP ht hq
    go_wp2_with fail
    refine ((HQ2.out _ (by repeat (first | with_reducible exact HR.out | with_reducible apply Rd.drewN | with_reducible apply Rd.drew | with_reducible apply Rd.alloc)))).mono ?_
    rintro e w1 ⟨rfl, b⟩
    have Sw1 := Lib.hid b.size
    have HB := Lib.hid (chain0 (w := w) (by repeat (first | with_reducible exact Below.refl _ _ | with_reducible exact HB.out | with_reducible apply Below.drew | with_reducible apply bdN | with_reducible refine Below.alloc ?_ (by first | exact Nat.le_refl _ | (simp; done) | (simp; omega) | (have := HB.out.size; simp at *; omega)) _ | with_reducible refine Below.setCell ?_ (by first | exact Nat.le_refl _ | (simp; done) | (simp; omega) | (have := HB.out.size; simp at *; omega)) _)) b)
    have HR := Lib.hid (Rd.below (by repeat (first | with_reducible exact HR.out | with_reducible apply Rd.drewN | with_reducible apply Rd.drew | with_reducible apply Rd.alloc)) b)
    have K0 : Hid (Box _ (w.heap.size) (c)) := Lib.hid (Box.below (by repeat (first | with_reducible exact K0.out | with_reducible apply Box.drewN | with_reducible apply Box.drew | (with_reducible refine Box.newAt ?_ ?_ <;> first | (simp; done) | rfl) | with_reducible apply Box.alloc)) b)
    try clear k0a k0b k0c k0d k0z
    have k0z := K0.out.lt
    obtain ⟨k0a, k0b, k0c, k0d⟩ := K0.out.cell
    clear b
    go_wp2_with fail
    go_ret
    exact ⟨ret_bool (by simp), by repeat (first | with_reducible exact Below.refl _ _ | with_reducible exact HB.out | with_reducible apply Below.drew | with_reducible apply bdN | with_reducible refine Below.alloc ?_ (by first | exact Nat.le_refl _ | (simp; done) | (simp; omega) | (have := HB.out.size; simp at *; omega)) _ | with_reducible refine Below.setCell ?_ (by first | exact Nat.le_refl _ | (simp; done) | (simp; omega) | (have := HB.out.size; simp at *; omega)) _)⟩

set_option maxRecDepth 100000 in
set_option maxHeartbeats 4000000 in
theorem impl_cl (l : List Cd) (c : Cd) (p : Option Addr) (n cp : Nat) (w : World) (hn : l.length = n) (hl : n ≤ 1000000000) (hr : Rd w p (flat l)) :
    Calls Try.prog 47 #[.slice p n cp, c.val] w fun e w' => ∃ u, e = .returned (.tuple #[u, .bool (clR l c).2]) ∧ OwnA2 w' w.heap.size u (clR l c).1 ∧ Below w.heap.size w w' := by
  have HN := Lib.hid hn
  have HR := Lib.hid hr
  clear hn hr
  go_enter Try.func47, Try.ntmps47
  go_wp2_with fail
  refine ((is_hand l p n cp _ HN.out hl (by repeat (first | with_reducible exact HR.out | with_reducible apply Rd.drewN | with_reducible apply Rd.drew | with_reducible apply Rd.alloc)))).mono ?_
  rintro e w1 ⟨rfl, b⟩
  have Sw1 := Lib.hid b.size
  have HB := Lib.hid (chain0 (w := w) (by repeat (first | with_reducible exact Below.refl _ _ | with_reducible exact HB.out | with_reducible apply Below.drew | with_reducible apply bdN | with_reducible refine Below.alloc ?_ (by first | exact Nat.le_refl _ | (simp; done) | (simp; omega) | (have := HB.out.size; simp at *; omega)) _ | with_reducible refine Below.setCell ?_ (by first | exact Nat.le_refl _ | (simp; done) | (simp; omega) | (have := HB.out.size; simp at *; omega)) _)) b)
  have HR := Lib.hid (Rd.below (by repeat (first | with_reducible exact HR.out | with_reducible apply Rd.drewN | with_reducible apply Rd.drew | with_reducible apply Rd.alloc)) b)
  have K0 : Hid (Box _ (w.heap.size) (c)) := Lib.hid (Box.below (by repeat (first | with_reducible exact K0.out | with_reducible apply Box.drewN | with_reducible apply Box.drew | (with_reducible refine Box.newAt ?_ ?_ <;> first | (simp; done) | rfl) | with_reducible apply Box.alloc)) b)
  try clear k0a k0b k0c k0d k0z
  have k0z := K0.out.lt
  obtain ⟨k0a, k0b, k0c, k0d⟩ := K0.out.cell
  clear b
  cases hh : handB l
  · have HT := Lib.hid (show clR l c = ([], false) by unfold clR; rw [if_neg (by simp [hh])])
    go_wp2_with fail
    go_ret2
    exact ⟨_, ret_two (by rw [HT.out]), by rw [HT.out]; exact OwnA2.empty _ _ HB.out.size, by repeat (first | with_reducible exact Below.refl _ _ | with_reducible exact HB.out | with_reducible apply Below.drew | with_reducible apply bdN | with_reducible refine Below.alloc ?_ (by first | exact Nat.le_refl _ | (simp; done) | (simp; omega) | (have := HB.out.size; simp at *; omega)) _ | with_reducible refine Below.setCell ?_ (by first | exact Nat.le_refl _ | (simp; done) | (simp; omega) | (have := HB.out.size; simp at *; omega)) _)⟩
  · go_wp2_with fail
    refine ((is_card c _)).mono ?_
    rintro e w2 ⟨rfl, b⟩
    have Sw2 := Lib.hid b.size
    have HB := Lib.hid (chain0 (w := w) (by repeat (first | with_reducible exact Below.refl _ _ | with_reducible exact HB.out | with_reducible apply Below.drew | with_reducible apply bdN | with_reducible refine Below.alloc ?_ (by first | exact Nat.le_refl _ | (simp; done) | (simp; omega) | (have := HB.out.size; simp at *; omega)) _ | with_reducible refine Below.setCell ?_ (by first | exact Nat.le_refl _ | (simp; done) | (simp; omega) | (have := HB.out.size; simp at *; omega)) _)) b)
    have HR := Lib.hid (Rd.below (by repeat (first | with_reducible exact HR.out | with_reducible apply Rd.drewN | with_reducible apply Rd.drew | with_reducible apply Rd.alloc)) b)
    have K0 : Hid (Box _ (w.heap.size) (c)) := Lib.hid (Box.below (by repeat (first | with_reducible exact K0.out | with_reducible apply Box.drewN | with_reducible apply Box.drew | (with_reducible refine Box.newAt ?_ ?_ <;> first | (simp; done) | rfl) | with_reducible apply Box.alloc)) b)
    try clear k0a k0b k0c k0d k0z
    have k0z := K0.out.lt
    obtain ⟨k0a, k0b, k0c, k0d⟩ := K0.out.cell
    clear b
    cases hc : c.ok
    · have HT := Lib.hid (show clR l c = ([], false) by unfold clR; rw [if_neg (by simp [hc])])
      go_wp2_with fail
      go_ret2
      exact ⟨_, ret_two (by rw [HT.out]), by rw [HT.out]; exact OwnA2.empty _ _ HB.out.size, by repeat (first | with_reducible exact Below.refl _ _ | with_reducible exact HB.out | with_reducible apply Below.drew | with_reducible apply bdN | with_reducible refine Below.alloc ?_ (by first | exact Nat.le_refl _ | (simp; done) | (simp; omega) | (have := HB.out.size; simp at *; omega)) _ | with_reducible refine Below.setCell ?_ (by first | exact Nat.le_refl _ | (simp; done) | (simp; omega) | (have := HB.out.size; simp at *; omega)) _)⟩
    · have HH := Lib.hid (handB_true.1 hh)
      have HC := Lib.hid hc
      have hn27 : n ≤ 27 := by have := HH.out.1; have := HN.out; omega
      go_wp2_with fail
      refine ((place_in l c p n cp _ HN.out (by omega) (by repeat (first | with_reducible exact HR.out | with_reducible apply Rd.drewN | with_reducible apply Rd.drew | with_reducible apply Rd.alloc)) HH.out.2.1 HC.out HH.out.2.2)).mono ?_
      rintro e w3 ⟨rfl, b⟩
      have Sw3 := Lib.hid b.size
      have HB := Lib.hid (chain0 (w := w) (by repeat (first | with_reducible exact Below.refl _ _ | with_reducible exact HB.out | with_reducible apply Below.drew | with_reducible apply bdN | with_reducible refine Below.alloc ?_ (by first | exact Nat.le_refl _ | (simp; done) | (simp; omega) | (have := HB.out.size; simp at *; omega)) _ | with_reducible refine Below.setCell ?_ (by first | exact Nat.le_refl _ | (simp; done) | (simp; omega) | (have := HB.out.size; simp at *; omega)) _)) b)
      have HR := Lib.hid (Rd.below (by repeat (first | with_reducible exact HR.out | with_reducible apply Rd.drewN | with_reducible apply Rd.drew | with_reducible apply Rd.alloc)) b)
      have K0 : Hid (Box _ (w.heap.size) (c)) := Lib.hid (Box.below (by repeat (first | with_reducible exact K0.out | with_reducible apply Box.drewN | with_reducible apply Box.drew | (with_reducible refine Box.newAt ?_ ?_ <;> first | (simp; done) | rfl) | with_reducible apply Box.alloc)) b)
      try clear k0a k0b k0c k0d k0z
      have k0z := K0.out.lt
      obtain ⟨k0a, k0b, k0c, k0d⟩ := K0.out.cell
      clear b
      cases ht : there l c
      · have HT := Lib.hid (show clR l c = (prs l c n, true) by unfold clR; rw [if_pos ⟨hh, hc, ht⟩, HN.out])
        clear hh hc ht
        go_wp2_with fail
        refine (pairs_with l c p n cp _ HN.out (by omega) (by repeat (first | with_reducible exact HR.out | with_reducible apply Rd.drewN | with_reducible apply Rd.drew | with_reducible apply Rd.alloc)) HH.out.2.1 HC.out HH.out.2.2).mono ?_
        rintro e w4 ⟨u, rfl, hu, b⟩
        have HZ := Lib.hid HB.out.size
        have Sw4 := Lib.hid b.size
        have HB := Lib.hid (chain0 (w := w) (by repeat (first | with_reducible exact Below.refl _ _ | with_reducible exact HB.out | with_reducible apply Below.drew | with_reducible apply bdN | with_reducible refine Below.alloc ?_ (by first | exact Nat.le_refl _ | (simp; done) | (simp; omega) | (have := HB.out.size; simp at *; omega)) _ | with_reducible refine Below.setCell ?_ (by first | exact Nat.le_refl _ | (simp; done) | (simp; omega) | (have := HB.out.size; simp at *; omega)) _)) b)
        have HR := Lib.hid (Rd.below (by repeat (first | with_reducible exact HR.out | with_reducible apply Rd.drewN | with_reducible apply Rd.drew | with_reducible apply Rd.alloc)) b)
        have K0 : Hid (Box _ (w.heap.size) (c)) := Lib.hid (Box.below (by repeat (first | with_reducible exact K0.out | with_reducible apply Box.drewN | with_reducible apply Box.drew | (with_reducible refine Box.newAt ?_ ?_ <;> first | (simp; done) | rfl) | with_reducible apply Box.alloc)) b)
        try clear k0a k0b k0c k0d k0z
        have k0z := K0.out.lt
        obtain ⟨k0a, k0b, k0c, k0d⟩ := K0.out.cell
        clear b
        have HU := Lib.hid (hu.base HZ.out)
        clear hu
        go_wp2_with fail
        go_ret2
        exact ⟨_, ret_two (by rw [HT.out]), by rw [HT.out]; exact HU.out, HB.out⟩
      · have HT := Lib.hid (show clR l c = ([], false) by unfold clR; rw [if_neg (by simp [ht])])
        go_wp2_with fail
        go_ret2
        exact ⟨_, ret_two (by rw [HT.out]), by rw [HT.out]; exact OwnA2.empty _ _ HB.out.size, by repeat (first | with_reducible exact Below.refl _ _ | with_reducible exact HB.out | with_reducible apply Below.drew | with_reducible apply bdN | with_reducible refine Below.alloc ?_ (by first | exact Nat.le_refl _ | (simp; done) | (simp; omega) | (have := HB.out.size; simp at *; omega)) _ | with_reducible refine Below.setCell ?_ (by first | exact Nat.le_refl _ | (simp; done) | (simp; omega) | (have := HB.out.size; simp at *; omega)) _)⟩

set_option maxRecDepth 100000 in
set_option maxHeartbeats 4000000 in
theorem spec_cl (l : List Cd) (c : Cd) (p : Option Addr) (n cp : Nat) (w : World) (hn : l.length = n) (hl : n ≤ 1000000000) (hr : Rd w p (flat l)) :
    Calls Try.prog 45 #[.slice p n cp, c.val] w fun e w' => ∃ u, e = .returned (.tuple #[u, .bool (clR l c).2]) ∧ OwnA2 w' w.heap.size u (clR l c).1 ∧ Below w.heap.size w w' := by
  have HN := Lib.hid hn
  have HR := Lib.hid hr
  have HR0 := Lib.hid hr
  clear hn hr
  have hz1 : (w.alloc c.obj).heap.size = w.heap.size + 1 := by simp
  have hz0 := OwnA2.empty (w.alloc c.obj) (w.heap.size + 1) (Nat.le_of_eq hz1.symm)
  rw [hz1] at hz0
  have HO := Lib.hid hz0
  clear hz0 hz1
  go_enter Try.func45, Try.ntmps45
  go_wp2_with fail
  refine ((l2_hand l p n cp _ HN.out hl (by repeat (first | with_reducible exact HR.out | with_reducible apply Rd.drewN | with_reducible apply Rd.drew | with_reducible apply Rd.alloc)))).mono ?_
  rintro e w1 ⟨rfl, b⟩
  have Sw1 := Lib.hid b.size
  have HB := Lib.hid (chain0 (w := w) (by repeat (first | with_reducible exact Below.refl _ _ | with_reducible exact HB.out | with_reducible apply Below.drew | with_reducible apply bdN | with_reducible refine Below.alloc ?_ (by first | exact Nat.le_refl _ | (simp; done) | (simp; omega) | (have := HB.out.size; simp at *; omega)) _ | with_reducible refine Below.setCell ?_ (by first | exact Nat.le_refl _ | (simp; done) | (simp; omega) | (have := HB.out.size; simp at *; omega)) _)) b)
  have HR := Lib.hid (Rd.below (by repeat (first | with_reducible exact HR.out | with_reducible apply Rd.drewN | with_reducible apply Rd.drew | with_reducible apply Rd.alloc)) b)
  have HO := Lib.hid (OwnA2.below (by repeat (first | with_reducible exact HO.out | with_reducible apply OwnA2.drewN | with_reducible apply OwnA2.drew | with_reducible apply OwnA2.alloc)) b)
  have K0 : Hid (Box _ (w.heap.size) (c)) := Lib.hid (Box.below (by repeat (first | with_reducible exact K0.out | with_reducible apply Box.drewN | with_reducible apply Box.drew | (with_reducible refine Box.newAt ?_ ?_ <;> first | (simp; done) | rfl) | with_reducible apply Box.alloc)) b)
  try clear k0a k0b k0c k0d k0z
  have k0z := K0.out.lt
  obtain ⟨k0a, k0b, k0c, k0d⟩ := K0.out.cell
  clear b
  cases hh : handB l
  · have HT := Lib.hid (show clR l c = ([], false) by unfold clR; rw [if_neg (by simp [hh])])
    go_wp2_with fail
    go_ret2
    exact ⟨_, ret_two (by rw [HT.out]), by rw [HT.out]; exact HO.out.base (Nat.le_succ _), by repeat (first | with_reducible exact Below.refl _ _ | with_reducible exact HB.out | with_reducible apply Below.drew | with_reducible apply bdN | with_reducible refine Below.alloc ?_ (by first | exact Nat.le_refl _ | (simp; done) | (simp; omega) | (have := HB.out.size; simp at *; omega)) _ | with_reducible refine Below.setCell ?_ (by first | exact Nat.le_refl _ | (simp; done) | (simp; omega) | (have := HB.out.size; simp at *; omega)) _)⟩
  · go_wp2_with fail
    refine ((l2_card c _)).mono ?_
    rintro e w2 ⟨rfl, b⟩
    have Sw2 := Lib.hid b.size
    have HB := Lib.hid (chain0 (w := w) (by repeat (first | with_reducible exact Below.refl _ _ | with_reducible exact HB.out | with_reducible apply Below.drew | with_reducible apply bdN | with_reducible refine Below.alloc ?_ (by first | exact Nat.le_refl _ | (simp; done) | (simp; omega) | (have := HB.out.size; simp at *; omega)) _ | with_reducible refine Below.setCell ?_ (by first | exact Nat.le_refl _ | (simp; done) | (simp; omega) | (have := HB.out.size; simp at *; omega)) _)) b)
    have HR := Lib.hid (Rd.below (by repeat (first | with_reducible exact HR.out | with_reducible apply Rd.drewN | with_reducible apply Rd.drew | with_reducible apply Rd.alloc)) b)
    have HO := Lib.hid (OwnA2.below (by repeat (first | with_reducible exact HO.out | with_reducible apply OwnA2.drewN | with_reducible apply OwnA2.drew | with_reducible apply OwnA2.alloc)) b)
    have K0 : Hid (Box _ (w.heap.size) (c)) := Lib.hid (Box.below (by repeat (first | with_reducible exact K0.out | with_reducible apply Box.drewN | with_reducible apply Box.drew | (with_reducible refine Box.newAt ?_ ?_ <;> first | (simp; done) | rfl) | with_reducible apply Box.alloc)) b)
    try clear k0a k0b k0c k0d k0z
    have k0z := K0.out.lt
    obtain ⟨k0a, k0b, k0c, k0d⟩ := K0.out.cell
    clear b
    cases hc : c.ok
    · have HT := Lib.hid (show clR l c = ([], false) by unfold clR; rw [if_neg (by simp [hc])])
      go_wp2_with fail
      go_ret2
      exact ⟨_, ret_two (by rw [HT.out]), by rw [HT.out]; exact HO.out.base (Nat.le_succ _), by repeat (first | with_reducible exact Below.refl _ _ | with_reducible exact HB.out | with_reducible apply Below.drew | with_reducible apply bdN | with_reducible refine Below.alloc ?_ (by first | exact Nat.le_refl _ | (simp; done) | (simp; omega) | (have := HB.out.size; simp at *; omega)) _ | with_reducible refine Below.setCell ?_ (by first | exact Nat.le_refl _ | (simp; done) | (simp; omega) | (have := HB.out.size; simp at *; omega)) _)⟩
    · have HH := Lib.hid (handB_true.1 hh)
      have HS := Lib.hid HH.out.2.2
      have HK := Lib.hid HH.out.2.1
      have HC := Lib.hid hc
      have hn27 : n ≤ 27 := by have := HH.out.1; have := HN.out; omega
      go_wp2_with fail
      refine ((l2_has l c p n cp _ HN.out (by omega) (by repeat (first | with_reducible exact HR.out | with_reducible apply Rd.drewN | with_reducible apply Rd.drew | with_reducible apply Rd.alloc)) HK.out HC.out HS.out)).mono ?_
      rintro e w3 ⟨rfl, b⟩
      have Sw3 := Lib.hid b.size
      have HB := Lib.hid (chain0 (w := w) (by repeat (first | with_reducible exact Below.refl _ _ | with_reducible exact HB.out | with_reducible apply Below.drew | with_reducible apply bdN | with_reducible refine Below.alloc ?_ (by first | exact Nat.le_refl _ | (simp; done) | (simp; omega) | (have := HB.out.size; simp at *; omega)) _ | with_reducible refine Below.setCell ?_ (by first | exact Nat.le_refl _ | (simp; done) | (simp; omega) | (have := HB.out.size; simp at *; omega)) _)) b)
      have HR := Lib.hid (Rd.below (by repeat (first | with_reducible exact HR.out | with_reducible apply Rd.drewN | with_reducible apply Rd.drew | with_reducible apply Rd.alloc)) b)
      have HO := Lib.hid (OwnA2.below (by repeat (first | with_reducible exact HO.out | with_reducible apply OwnA2.drewN | with_reducible apply OwnA2.drew | with_reducible apply OwnA2.alloc)) b)
      have K0 : Hid (Box _ (w.heap.size) (c)) := Lib.hid (Box.below (by repeat (first | with_reducible exact K0.out | with_reducible apply Box.drewN | with_reducible apply Box.drew | (with_reducible refine Box.newAt ?_ ?_ <;> first | (simp; done) | rfl) | with_reducible apply Box.alloc)) b)
      try clear k0a k0b k0c k0d k0z
      have k0z := K0.out.lt
      obtain ⟨k0a, k0b, k0c, k0d⟩ := K0.out.cell
      clear b
      cases ht : there l c
      · have HT := Lib.hid (show clR l c = (prs l c n, true) by unfold clR; rw [if_pos ⟨hh, hc, ht⟩, HN.out])
        clear hh hc ht
        go_wp2_with fail
        clear k0a k0b k0c k0d k0z
        go_loopw [6, 7, 8] (fun o i _ wr => ∃ k : Nat, k ≤ n ∧ i = .int .i64 k ∧ Hid (OwnA2 wr (w.heap.size + 1) o (prs l c k)) ∧ Hid (Below w.heap.size w wr) ∧ Hid (Box wr w.heap.size c)) (fun _ i _ _ => n - (intOf i).toNat)
        case atStart => exact ⟨0, Nat.zero_le _, rfl, HO, HB, K0⟩
        case round =>
          clear HO HB K0 HR
          obtain ⟨k, hk, rfl, HO, HB, K0⟩ := hrel
          by_cases hlt : k < n
          · obtain ⟨wo, HWo⟩ : ∃ wo : World, Hid (wo = wr) := ⟨_, rfl⟩
            go_wp2_with fail
            go_loopw [6, 8] (fun o i wr => ∃ j : Nat, j ≤ n ∧ k < j ∧ i = .int .i64 j ∧ Hid (OwnA2 wr (w.heap.size + 1) o (prs l c k ++ pr1 l c k j)) ∧ Hid (Below w.heap.size w wr) ∧ Hid (Box wr w.heap.size c)) (fun _ i _ => n - (intOf i).toNat)
            case atStart => exact ⟨k + 1, by omega, by omega, by go_num, by rw [pr1_low (Nat.le_refl _), List.append_nil]; exact HO, HB, K0⟩
            case round =>
              clear HB HO K0
              obtain ⟨j, hj, hkj, rfl, HO, HB, K0⟩ := hrel
              obtain ⟨k0a, k0b, k0c, k0d⟩ := K0.out.cell
              have k0z := K0.out.lt
              by_cases hjt : j < n
              · have HR := Lib.hid (HR0.out.below HB.out)
                obtain ⟨b, o, x, rfl, hb, hx, c0, c1, c2, c3⟩ := HR.out.card (k := k) (by rw [HN.out]; omega)
                obtain ⟨b2, o2, y, hbo, hb2, hy, d0, d1, d2, d3⟩ := HR.out.card (k := j) (by rw [HN.out]; omega)
                injection hbo with hbo
                injection hbo with e1 e2
                subst e1; subst e2
                have HX := Lib.hid (ok_at HK.out hx)
                have HY := Lib.hid (ok_at HK.out hy)
                have hst := pr1_step HS.out HK.out HC.out hx hy hkj
                have hln : (prs l c k ++ pr1 l c k j).length ≤ 1000000 := by
                  have h1 := prs_le l c k
                  have h2 := pr1_le l c k j
                  rw [List.length_append]; omega
                have HLn := Lib.hid hln
                clear hx hy hln
                have m0 : (0 : Int) ≤ (k : Int) := by omega
                have m1 : (k : Int) < (n : Int) := by omega
                have m2 : (0 : Int) ≤ (j : Int) := by omega
                have m3 : (j : Int) < (n : Int) := by omega
                have LL := fun w => l2_line x y c w HX.out HY.out HC.out
                cases hq : line x y c
                · rw [hq] at LL hst
                  have LH := Lib.hid LL
                  have HSt := Lib.hid hst
                  clear LL hst hq
                  go_wp2_with fail
                  have qk0a := fun d os => cell_regrown k0a d os
                  have qk0b := fun d os => cell_regrown k0b d os
                  have qk0c := fun d os => cell_regrown k0c d os
                  have qk0d := fun d os => cell_regrown k0d d os
                  have qc0 := fun d os => cell_regrown c0 d os
                  have qc1 := fun d os => cell_regrown c1 d os
                  have qc2 := fun d os => cell_regrown c2 d os
                  have qc3 := fun d os => cell_regrown c3 d os
                  have qd0 := fun d os => cell_regrown d0 d os
                  have qd1 := fun d os => cell_regrown d1 d os
                  have qd2 := fun d os => cell_regrown d2 d os
                  have qd3 := fun d os => cell_regrown d3 d os
                  refine wp_region_quiet_below (by kernel_rfl) (by kernel_rfl) ?_
                  repeat (first | go_big_quiet_step ((go_at_call 86; with_reducible exact Calls.regrown_of (LH.out _))) | quiet_step ((go_at_call 86; with_reducible exact Calls.regrown_of (LH.out _))))
                  refine wpQuiet_nil ?_
                  intro w4 hw2
                  have b : Below wr.heap.size wr w4 := by obtain ⟨r, hr⟩ := hw2; rw [hr]; exact below_regrown _ _ _
                  clear hw2 qc0 qc1 qc2 qc3 qd0 qd1 qd2 qd3 qk0a qk0b qk0c qk0d
                  have Sw4 := Lib.hid b.size
                  have HB := Lib.hid (chain0 (w := w) (by repeat (first | with_reducible exact Below.refl _ _ | with_reducible exact HB.out | with_reducible apply Below.drew | with_reducible apply bdN | with_reducible refine Below.alloc ?_ (by first | exact Nat.le_refl _ | (simp; done) | (simp; omega) | (have := HB.out.size; simp at *; omega)) _ | with_reducible refine Below.setCell ?_ (by first | exact Nat.le_refl _ | (simp; done) | (simp; omega) | (have := HB.out.size; simp at *; omega)) _)) b)
                  have HO := Lib.hid (OwnA2.below (by repeat (first | with_reducible exact HO.out | with_reducible apply OwnA2.drewN | with_reducible apply OwnA2.drew | with_reducible apply OwnA2.alloc)) b)
                  have K0 : Hid (Box _ (w.heap.size) (c)) := Lib.hid (Box.below (by repeat (first | with_reducible exact K0.out | with_reducible apply Box.drewN | with_reducible apply Box.drew | (with_reducible refine Box.newAt ?_ ?_ <;> first | (simp; done) | rfl) | with_reducible apply Box.alloc)) b)
                  try clear k0a k0b k0c k0d k0z
                  have k0z := K0.out.lt
                  obtain ⟨k0a, k0b, k0c, k0d⟩ := K0.out.cell
                  clear b
                  clear c0 c1 c2 c3 d0 d1 d2 d3
                  go_wp2_with fail
                  go_roundw
                  case rel => exact ⟨j + 1, by omega, by omega, by go_num, by rw [HSt.out, if_neg (by simp), List.append_nil]; exact HO, HB, K0⟩
                  case measure => simp [intOf]; omega
                · rw [hq] at LL hst
                  have LH := Lib.hid LL
                  have HSt := Lib.hid hst
                  clear LL hst hq
                  go_wp2_with fail
                  have qk0a := fun d os => cell_regrown k0a d os
                  have qk0b := fun d os => cell_regrown k0b d os
                  have qk0c := fun d os => cell_regrown k0c d os
                  have qk0d := fun d os => cell_regrown k0d d os
                  have qc0 := fun d os => cell_regrown c0 d os
                  have qc1 := fun d os => cell_regrown c1 d os
                  have qc2 := fun d os => cell_regrown c2 d os
                  have qc3 := fun d os => cell_regrown c3 d os
                  have qd0 := fun d os => cell_regrown d0 d os
                  have qd1 := fun d os => cell_regrown d1 d os
                  have qd2 := fun d os => cell_regrown d2 d os
                  have qd3 := fun d os => cell_regrown d3 d os
                  refine wp_region_quiet_below (by kernel_rfl) (by kernel_rfl) ?_
                  repeat (first | go_big_quiet_step ((go_at_call 86; with_reducible exact Calls.regrown_of (LH.out _))) | quiet_step ((go_at_call 86; with_reducible exact Calls.regrown_of (LH.out _))))
                  refine wpQuiet_nil ?_
                  intro w4 hw2
                  have b : Below wr.heap.size wr w4 := by obtain ⟨r, hr⟩ := hw2; rw [hr]; exact below_regrown _ _ _
                  clear hw2 qc0 qc1 qc2 qc3 qd0 qd1 qd2 qd3 qk0a qk0b qk0c qk0d
                  have Sw4 := Lib.hid b.size
                  have HB := Lib.hid (chain0 (w := w) (by repeat (first | with_reducible exact Below.refl _ _ | with_reducible exact HB.out | with_reducible apply Below.drew | with_reducible apply bdN | with_reducible refine Below.alloc ?_ (by first | exact Nat.le_refl _ | (simp; done) | (simp; omega) | (have := HB.out.size; simp at *; omega)) _ | with_reducible refine Below.setCell ?_ (by first | exact Nat.le_refl _ | (simp; done) | (simp; omega) | (have := HB.out.size; simp at *; omega)) _)) b)
                  have HO := Lib.hid (OwnA2.below (by repeat (first | with_reducible exact HO.out | with_reducible apply OwnA2.drewN | with_reducible apply OwnA2.drew | with_reducible apply OwnA2.alloc)) b)
                  have K0 : Hid (Box _ (w.heap.size) (c)) := Lib.hid (Box.below (by repeat (first | with_reducible exact K0.out | with_reducible apply Box.drewN | with_reducible apply Box.drew | (with_reducible refine Box.newAt ?_ ?_ <;> first | (simp; done) | rfl) | with_reducible apply Box.alloc)) b)
                  try clear k0a k0b k0c k0d k0z
                  have k0z := K0.out.lt
                  obtain ⟨k0a, k0b, k0c, k0d⟩ := K0.out.cell
                  clear b
                  clear c0 c1 c2 c3 d0 d1 d2 d3
                  have HSt2 := Lib.hid (show pr1 l c k (j + 1) = pr1 l c k j ++ [⟨(k : Int), (j : Int)⟩] by rw [HSt.out]; simp)
                  go_wp2_with (at_builtin; refine append_A2 rfl (.tmp 48) (.tmp 52) rfl (w.heap.size + 1) _ (prs l c k ++ pr1 l c k j) ⟨(k : Int), (j : Int)⟩ _ _ rfl rfl rfl HO.out (by have := HLn.out; omega) k0z ?_; intro v1 w5 hO1 hB1)
                  rw [List.append_assoc, ← HSt2.out] at hO1
                  go_roundw
                  case rel => exact ⟨j + 1, by omega, by omega, by go_num, hO1, HB.out.trans (hB1.mono (Nat.le_succ _)), K0.out.under (Nat.lt_succ_self _) hB1⟩
                  case measure => simp [intOf]; omega
              · obtain rfl : j = n := by omega
                go_wp2_with fail
                go_roundw
                case rel => exact ⟨k + 1, by omega, by go_num, by rw [show prs l c (k + 1) = prs l c k ++ pr1 l c k l.length from rfl, HN.out]; exact HO, HB, K0⟩
                case measure => simp [intOf]; omega
          · obtain rfl : k = n := by omega
            go_wp2_with fail
            go_ret2
            exact ⟨_, ret_two (by rw [HT.out]), by rw [HT.out]; exact HO.out.base (Nat.le_succ _), HB.out⟩
      · have HT := Lib.hid (show clR l c = ([], false) by unfold clR; rw [if_neg (by simp [ht])])
        go_wp2_with fail
        go_ret2
        exact ⟨_, ret_two (by rw [HT.out]), by rw [HT.out]; exact HO.out.base (Nat.le_succ _), by repeat (first | with_reducible exact Below.refl _ _ | with_reducible exact HB.out | with_reducible apply Below.drew | with_reducible apply bdN | with_reducible refine Below.alloc ?_ (by first | exact Nat.le_refl _ | (simp; done) | (simp; omega) | (have := HB.out.size; simp at *; omega)) _ | with_reducible refine Below.setCell ?_ (by first | exact Nat.le_refl _ | (simp; done) | (simp; omega) | (have := HB.out.size; simp at *; omega)) _)⟩
end Go.Proofs.Ytbimbaogjknboaa.cards
