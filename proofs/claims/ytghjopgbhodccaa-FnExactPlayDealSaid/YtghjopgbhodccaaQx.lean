/- Stuck Deals, Deals that are over, lines of a Deal: the program and the model alike. -/
import Derived.Test.YtghjopgbhodccaaQq
import Derived.Test.YtghjopgbhodccaaQn
namespace Go.Proofs.Ytghjopgbhodccaa.deal
open Go.RowKit
open cards
set_option linter.unusedVariables false

set_option maxRecDepth 100000 in
set_option maxHeartbeats 2000000 in
theorem is_stuck (s nx : Int) (l : List Cd) (p : Option Addr) (n cp : Nat) (w : World) (hn : l.length = n) (hl : n ≤ 81) (hr : Rd w p (flat l)) (hok : l.all Cd.ok = true) :
    Calls Try.prog 74 #[dval s nx (.slice p n cp)] w fun e w' => e = .returned (.bool (stuckD ⟨s, nx, l⟩)) ∧ Below w.heap.size w w' := by
  have HN := Lib.hid hn
  have HR := Lib.hid hr
  have HK := Lib.hid hok
  clear hn hr hok
  go_enter Try.func74, Try.ntmps74
  go_wp2_with fail
  refine (lines_of l p n cp _ HN.out hl (by repeat (first | with_reducible exact HR.out | with_reducible apply Rd.drewN | with_reducible apply Rd.drew | with_reducible apply Rd.alloc)) HK.out).mono ?_
  rintro e w1 ⟨u, rfl, hu, b⟩
  obtain ⟨pu, cu, rfl, _⟩ := hu.form
  obtain ⟨m, hm⟩ : ∃ m, (lines l).length = m := ⟨_, rfl⟩
  have HSt := Lib.hid (show stuckD ⟨s, nx, l⟩ = decide (m = 0) by unfold stuckD; rw [hm])
  rw [hm]
  clear hm hu
  have Sw1 := Lib.hid b.size
  have HB := Lib.hid (chain0 (w := w) (by repeat (first | with_reducible exact Below.refl _ _ | with_reducible exact HB.out | with_reducible apply Below.drew | with_reducible apply bdN | with_reducible refine Below.alloc ?_ (by first | exact Nat.le_refl _ | (simp; done) | (simp; omega) | (have := HB.out.size; simp at *; omega)) _ | with_reducible refine Below.setCell ?_ (by first | exact Nat.le_refl _ | (simp; done) | (simp; omega) | (have := HB.out.size; simp at *; omega)) _)) b)
  clear b
  go_wp2_with fail
  go_ret
  exact ⟨ret_bool (by rw [HSt.out]; rw [Bool.eq_iff_iff]; simp), by repeat (first | with_reducible exact Below.refl _ _ | with_reducible exact HB.out | with_reducible apply Below.drew | with_reducible apply bdN | with_reducible refine Below.alloc ?_ (by first | exact Nat.le_refl _ | (simp; done) | (simp; omega) | (have := HB.out.size; simp at *; omega)) _ | with_reducible refine Below.setCell ?_ (by first | exact Nat.le_refl _ | (simp; done) | (simp; omega) | (have := HB.out.size; simp at *; omega)) _)⟩

set_option maxRecDepth 100000 in
set_option maxHeartbeats 2000000 in
theorem is_over (s nx : Int) (l : List Cd) (p : Option Addr) (n cp : Nat) (w : World) (hn : l.length = n) (hl : n ≤ 81) (hr : Rd w p (flat l)) (hok : l.all Cd.ok = true) :
    Calls Try.prog 76 #[dval s nx (.slice p n cp)] w fun e w' => e = .returned (.bool (overD ⟨s, nx, l⟩)) ∧ Below w.heap.size w w' := by
  have HN := Lib.hid hn
  have HR := Lib.hid hr
  have HK := Lib.hid hok

  clear hn hr hok
  by_cases h81 : nx = 81
  · subst h81
    go_enter Try.func76, Try.ntmps76
    have HO := Lib.hid (show overD ⟨s, 81, l⟩ = stuckD ⟨s, 81, l⟩ by unfold overD; simp)
    go_wp2_with fail
    refine ((is_stuck s 81 l p n cp _ HN.out hl (by repeat (first | with_reducible exact HR.out | with_reducible apply Rd.drewN | with_reducible apply Rd.drew | with_reducible apply Rd.alloc)) HK.out)).mono ?_
    rintro e w1 ⟨rfl, b⟩
    have Sw1 := Lib.hid b.size
    have HB := Lib.hid (chain0 (w := w) (by repeat (first | with_reducible exact Below.refl _ _ | with_reducible exact HB.out | with_reducible apply Below.drew | with_reducible apply bdN | with_reducible refine Below.alloc ?_ (by first | exact Nat.le_refl _ | (simp; done) | (simp; omega) | (have := HB.out.size; simp at *; omega)) _ | with_reducible refine Below.setCell ?_ (by first | exact Nat.le_refl _ | (simp; done) | (simp; omega) | (have := HB.out.size; simp at *; omega)) _)) b)
    have HR := Lib.hid (Rd.below (by repeat (first | with_reducible exact HR.out | with_reducible apply Rd.drewN | with_reducible apply Rd.drew | with_reducible apply Rd.alloc)) b)
    have K1 : Hid (DBox _ (w.heap.size) (⟨31, s, 81, .slice p n cp⟩)) := Lib.hid (DBox.below (by repeat (first | with_reducible exact K1.out | with_reducible apply DBox.drewN | with_reducible apply DBox.drew | (with_reducible refine DBox.newAt ?_ ?_ <;> first | (simp; done) | rfl) | with_reducible apply DBox.alloc)) b)
    try clear k1a k1b k1c k1d k1z
    have k1z := K1.out.lt
    obtain ⟨k1a, k1b, k1c, k1d⟩ := K1.out.cell
    clear b
    go_wp2_with fail
    go_ret
    exact ⟨ret_bool HO.out.symm, by repeat (first | with_reducible exact Below.refl _ _ | with_reducible exact HB.out | with_reducible apply Below.drew | with_reducible apply bdN | with_reducible refine Below.alloc ?_ (by first | exact Nat.le_refl _ | (simp; done) | (simp; omega) | (have := HB.out.size; simp at *; omega)) _ | with_reducible refine Below.setCell ?_ (by first | exact Nat.le_refl _ | (simp; done) | (simp; omega) | (have := HB.out.size; simp at *; omega)) _)⟩
  · have HO := Lib.hid (show overD ⟨s, nx, l⟩ = false by unfold overD; simp [h81])
    have hd2 : (nx == 81) = false := by simp [h81]
    clear h81
    go_enter Try.func76, Try.ntmps76
    go_wp2_with fail
    go_ret
    exact ⟨ret_bool HO.out.symm, by repeat (first | with_reducible exact Below.refl _ _ | with_reducible exact HB.out | with_reducible apply Below.drew | with_reducible apply bdN | with_reducible refine Below.alloc ?_ (by first | exact Nat.le_refl _ | (simp; done) | (simp; omega) | (have := HB.out.size; simp at *; omega)) _ | with_reducible refine Below.setCell ?_ (by first | exact Nat.le_refl _ | (simp; done) | (simp; omega) | (have := HB.out.size; simp at *; omega)) _)⟩

set_option maxRecDepth 100000 in
set_option maxHeartbeats 2000000 in
theorem l4_over (s nx : Int) (l : List Cd) (p : Option Addr) (n cp : Nat) (w : World) (hn : l.length = n) (hl : n ≤ 81) (hr : Rd w p (flat l)) (hok : l.all Cd.ok = true) (hd : l.Nodup) :
    Calls Try.prog 75 #[dval s nx (.slice p n cp)] w fun e w' => e = .returned (.bool (overD ⟨s, nx, l⟩)) ∧ Below w.heap.size w w' := by
  have HN := Lib.hid hn
  have HR := Lib.hid hr
  have HK := Lib.hid hok
  have HD := Lib.hid hd
  clear hn hr hok hd
  by_cases h81 : nx = 81
  · subst h81
    go_enter Try.func75, Try.ntmps75
    go_wp2_with fail
    refine (l4_lines l p n cp _ HN.out hl (by repeat (first | with_reducible exact HR.out | with_reducible apply Rd.drewN | with_reducible apply Rd.drew | with_reducible apply Rd.alloc)) HK.out HD.out).mono ?_
    rintro e w1 ⟨u, rfl, hu, b⟩
    obtain ⟨pu, cu, rfl, _⟩ := hu.form
    obtain ⟨m, hm⟩ : ∃ m, (lines l).length = m := ⟨_, rfl⟩
    have HO := Lib.hid (show overD ⟨s, 81, l⟩ = decide (m = 0) by unfold overD stuckD; rw [hm]; simp)
    rw [hm]
    clear hm hu
    have Sw1 := Lib.hid b.size
    have HB := Lib.hid (chain0 (w := w) (by repeat (first | with_reducible exact Below.refl _ _ | with_reducible exact HB.out | with_reducible apply Below.drew | with_reducible apply bdN | with_reducible refine Below.alloc ?_ (by first | exact Nat.le_refl _ | (simp; done) | (simp; omega) | (have := HB.out.size; simp at *; omega)) _ | with_reducible refine Below.setCell ?_ (by first | exact Nat.le_refl _ | (simp; done) | (simp; omega) | (have := HB.out.size; simp at *; omega)) _)) b)
    clear b
    go_wp2_with fail
    go_ret
    exact ⟨ret_bool (by rw [HO.out]; rw [Bool.eq_iff_iff]; simp), by repeat (first | with_reducible exact Below.refl _ _ | with_reducible exact HB.out | with_reducible apply Below.drew | with_reducible apply bdN | with_reducible refine Below.alloc ?_ (by first | exact Nat.le_refl _ | (simp; done) | (simp; omega) | (have := HB.out.size; simp at *; omega)) _ | with_reducible refine Below.setCell ?_ (by first | exact Nat.le_refl _ | (simp; done) | (simp; omega) | (have := HB.out.size; simp at *; omega)) _)⟩
  · have HO := Lib.hid (show overD ⟨s, nx, l⟩ = false by unfold overD; simp [h81])
    have hd2 : (nx == 81) = false := by simp [h81]
    clear h81
    go_enter Try.func75, Try.ntmps75
    go_wp2_with fail
    go_ret
    exact ⟨ret_bool HO.out.symm, by repeat (first | with_reducible exact Below.refl _ _ | with_reducible exact HB.out | with_reducible apply Below.drew | with_reducible apply bdN | with_reducible refine Below.alloc ?_ (by first | exact Nat.le_refl _ | (simp; done) | (simp; omega) | (have := HB.out.size; simp at *; omega)) _ | with_reducible refine Below.setCell ?_ (by first | exact Nat.le_refl _ | (simp; done) | (simp; omega) | (have := HB.out.size; simp at *; omega)) _)⟩

noncomputable def dlR (d : Dl) : List A3 × Bool := if d.ok = true then (lines d.l, true) else ([], false)
theorem dlR_len (d : Dl) : (dlR d).1.length ≤ 10000 := by
  unfold dlR; split
  · rename_i h
    have h1 := lines_len d.l
    have h2 : d.l.length * d.l.length ≤ 81 * 81 := Nat.mul_le_mul (Dl.ok_iff.1 h).len81 (Dl.ok_iff.1 h).len81
    show (lines d.l).length ≤ _
    omega
  · simp
noncomputable def stR (d : Dl) : Bool × Bool := if d.ok = true then (stuckD d, true) else (false, false)
noncomputable def ovR (d : Dl) : Bool × Bool := if d.ok = true then (overD d, true) else (false, false)

set_option maxRecDepth 100000 in
set_option maxHeartbeats 2000000 in
theorem impl_dl (s nx : Int) (l : List Cd) (p : Option Addr) (n cp B : Nat) (w : World) (hn : l.length = n) (hl : n ≤ 1000000000) (ho : Own w B (.slice p n cp) l) (hw : ∀ x ∈ l, wfc x) :
    Calls Try.prog 33 #[dval s nx (.slice p n cp)] w fun e w' => ∃ u, e = .returned (.tuple #[u, .bool (dlR ⟨s, nx, l⟩).2]) ∧ OwnA3 w' w.heap.size u (dlR ⟨s, nx, l⟩).1 ∧ Below w.heap.size w w' := by
  have HN := Lib.hid hn
  have hr := ho.rd
  have hcp : n ≤ cp := by obtain ⟨p', c', e, h, _⟩ := ho.form; injection e with e1 e2 e3; omega
  have HR := Lib.hid hr
  have HW := Lib.hid hw
  clear hn hr hw ho
  go_enter Try.func33, Try.ntmps33
  go_wp2_with fail
  refine ((impl_isdeal s nx l p n cp _ HN.out hl hcp (by repeat (first | with_reducible exact HR.out | with_reducible apply Rd.drewN | with_reducible apply Rd.drew | with_reducible apply Rd.alloc)) HW.out)).mono ?_
  rintro e w1 ⟨rfl, b⟩
  have Sw1 := Lib.hid b.size
  have HB := Lib.hid (chain0 (w := w) (by repeat (first | with_reducible exact Below.refl _ _ | with_reducible exact HB.out | with_reducible apply Below.drew | with_reducible apply bdN | with_reducible refine Below.alloc ?_ (by first | exact Nat.le_refl _ | (simp; done) | (simp; omega) | (have := HB.out.size; simp at *; omega)) _ | with_reducible refine Below.setCell ?_ (by first | exact Nat.le_refl _ | (simp; done) | (simp; omega) | (have := HB.out.size; simp at *; omega)) _)) b)
  have HR := Lib.hid (Rd.below (by repeat (first | with_reducible exact HR.out | with_reducible apply Rd.drewN | with_reducible apply Rd.drew | with_reducible apply Rd.alloc)) b)
  have K1 : Hid (DBox _ (w.heap.size) (⟨31, s, nx, .slice p n cp⟩)) := Lib.hid (DBox.below (by repeat (first | with_reducible exact K1.out | with_reducible apply DBox.drewN | with_reducible apply DBox.drew | (with_reducible refine DBox.newAt ?_ ?_ <;> first | (simp; done) | rfl) | with_reducible apply DBox.alloc)) b)
  try clear k1a k1b k1c k1d k1z
  have k1z := K1.out.lt
  obtain ⟨k1a, k1b, k1c, k1d⟩ := K1.out.cell
  clear b
  cases hok : (Dl.mk s nx l).ok
  · have HT := Lib.hid (show dlR ⟨s, nx, l⟩ = ([], false) by unfold dlR; rw [if_neg (by simp [hok])])
    go_wp2_with fail
    go_ret2
    exact ⟨_, ret_two (by rw [HT.out]), by rw [HT.out]; exact OwnA3.empty _ _ HB.out.size, by repeat (first | with_reducible exact Below.refl _ _ | with_reducible exact HB.out | with_reducible apply Below.drew | with_reducible apply bdN | with_reducible refine Below.alloc ?_ (by first | exact Nat.le_refl _ | (simp; done) | (simp; omega) | (have := HB.out.size; simp at *; omega)) _ | with_reducible refine Below.setCell ?_ (by first | exact Nat.le_refl _ | (simp; done) | (simp; omega) | (have := HB.out.size; simp at *; omega)) _)⟩
  · have HT := Lib.hid (show dlR ⟨s, nx, l⟩ = (lines l, true) by unfold dlR; rw [if_pos hok])
    have HO := Lib.hid (Dl.ok_iff.1 hok)
    have HK := Lib.hid HO.out.cards
    have hl81 : n ≤ 81 := by have h1 := HO.out.len81; have h2 := HN.out; have h3 : l.length ≤ 81 := h1; omega
    clear hok
    go_wp2_with fail
    refine (lines_of l p n cp _ HN.out hl81 (by repeat (first | with_reducible exact HR.out | with_reducible apply Rd.drewN | with_reducible apply Rd.drew | with_reducible apply Rd.alloc)) HK.out).mono ?_
    rintro e w2 ⟨u, rfl, hu, b⟩
    have HZ := Lib.hid HB.out.size
    have Sw2 := Lib.hid b.size
    have HB := Lib.hid (chain0 (w := w) (by repeat (first | with_reducible exact Below.refl _ _ | with_reducible exact HB.out | with_reducible apply Below.drew | with_reducible apply bdN | with_reducible refine Below.alloc ?_ (by first | exact Nat.le_refl _ | (simp; done) | (simp; omega) | (have := HB.out.size; simp at *; omega)) _ | with_reducible refine Below.setCell ?_ (by first | exact Nat.le_refl _ | (simp; done) | (simp; omega) | (have := HB.out.size; simp at *; omega)) _)) b)
    have HR := Lib.hid (Rd.below (by repeat (first | with_reducible exact HR.out | with_reducible apply Rd.drewN | with_reducible apply Rd.drew | with_reducible apply Rd.alloc)) b)
    have K1 : Hid (DBox _ (w.heap.size) (⟨31, s, nx, .slice p n cp⟩)) := Lib.hid (DBox.below (by repeat (first | with_reducible exact K1.out | with_reducible apply DBox.drewN | with_reducible apply DBox.drew | (with_reducible refine DBox.newAt ?_ ?_ <;> first | (simp; done) | rfl) | with_reducible apply DBox.alloc)) b)
    try clear k1a k1b k1c k1d k1z
    have k1z := K1.out.lt
    obtain ⟨k1a, k1b, k1c, k1d⟩ := K1.out.cell
    clear b
    have HU := Lib.hid (hu.base HZ.out)
    clear hu
    go_wp2_with fail
    go_ret2
    exact ⟨_, ret_two (by rw [HT.out]), by rw [HT.out]; exact HU.out, HB.out⟩

set_option maxRecDepth 100000 in
set_option maxHeartbeats 2000000 in
theorem spec_dl (s nx : Int) (l : List Cd) (p : Option Addr) (n cp B : Nat) (w : World) (hn : l.length = n) (hl : n ≤ 1000000000) (ho : Own w B (.slice p n cp) l) (hw : ∀ x ∈ l, wfc x) :
    Calls Try.prog 32 #[dval s nx (.slice p n cp)] w fun e w' => ∃ u, e = .returned (.tuple #[u, .bool (dlR ⟨s, nx, l⟩).2]) ∧ OwnA3 w' w.heap.size u (dlR ⟨s, nx, l⟩).1 ∧ Below w.heap.size w w' := by
  have HN := Lib.hid hn
  have hr := ho.rd
  have hcp : n ≤ cp := by obtain ⟨p', c', e, h, _⟩ := ho.form; injection e with e1 e2 e3; omega
  have HR := Lib.hid hr
  have HW := Lib.hid hw
  clear hn hr hw ho
  go_enter Try.func32, Try.ntmps32
  go_wp2_with fail
  refine ((l4_deal s nx l p n cp _ HN.out hl hcp (by repeat (first | with_reducible exact HR.out | with_reducible apply Rd.drewN | with_reducible apply Rd.drew | with_reducible apply Rd.alloc)) HW.out)).mono ?_
  rintro e w1 ⟨rfl, b⟩
  have Sw1 := Lib.hid b.size
  have HB := Lib.hid (chain0 (w := w) (by repeat (first | with_reducible exact Below.refl _ _ | with_reducible exact HB.out | with_reducible apply Below.drew | with_reducible apply bdN | with_reducible refine Below.alloc ?_ (by first | exact Nat.le_refl _ | (simp; done) | (simp; omega) | (have := HB.out.size; simp at *; omega)) _ | with_reducible refine Below.setCell ?_ (by first | exact Nat.le_refl _ | (simp; done) | (simp; omega) | (have := HB.out.size; simp at *; omega)) _)) b)
  have HR := Lib.hid (Rd.below (by repeat (first | with_reducible exact HR.out | with_reducible apply Rd.drewN | with_reducible apply Rd.drew | with_reducible apply Rd.alloc)) b)
  have K1 : Hid (DBox _ (w.heap.size) (⟨31, s, nx, .slice p n cp⟩)) := Lib.hid (DBox.below (by repeat (first | with_reducible exact K1.out | with_reducible apply DBox.drewN | with_reducible apply DBox.drew | (with_reducible refine DBox.newAt ?_ ?_ <;> first | (simp; done) | rfl) | with_reducible apply DBox.alloc)) b)
  try clear k1a k1b k1c k1d k1z
  have k1z := K1.out.lt
  obtain ⟨k1a, k1b, k1c, k1d⟩ := K1.out.cell
  clear b
  cases hok : (Dl.mk s nx l).ok
  · have HT := Lib.hid (show dlR ⟨s, nx, l⟩ = ([], false) by unfold dlR; rw [if_neg (by simp [hok])])
    go_wp2_with fail
    go_ret2
    exact ⟨_, ret_two (by rw [HT.out]), by rw [HT.out]; exact OwnA3.empty _ _ HB.out.size, by repeat (first | with_reducible exact Below.refl _ _ | with_reducible exact HB.out | with_reducible apply Below.drew | with_reducible apply bdN | with_reducible refine Below.alloc ?_ (by first | exact Nat.le_refl _ | (simp; done) | (simp; omega) | (have := HB.out.size; simp at *; omega)) _ | with_reducible refine Below.setCell ?_ (by first | exact Nat.le_refl _ | (simp; done) | (simp; omega) | (have := HB.out.size; simp at *; omega)) _)⟩
  · have HT := Lib.hid (show dlR ⟨s, nx, l⟩ = (lines l, true) by unfold dlR; rw [if_pos hok])
    have HO := Lib.hid (Dl.ok_iff.1 hok)
    have HK := Lib.hid HO.out.cards
    have hl81 : n ≤ 81 := by have h1 := HO.out.len81; have h2 := HN.out; have h3 : l.length ≤ 81 := h1; omega
    clear hok
    go_wp2_with fail
    refine (l4_lines l p n cp _ HN.out hl81 (by repeat (first | with_reducible exact HR.out | with_reducible apply Rd.drewN | with_reducible apply Rd.drew | with_reducible apply Rd.alloc)) HK.out HO.out.2.2.2).mono ?_
    rintro e w2 ⟨u, rfl, hu, b⟩
    have HZ := Lib.hid HB.out.size
    have Sw2 := Lib.hid b.size
    have HB := Lib.hid (chain0 (w := w) (by repeat (first | with_reducible exact Below.refl _ _ | with_reducible exact HB.out | with_reducible apply Below.drew | with_reducible apply bdN | with_reducible refine Below.alloc ?_ (by first | exact Nat.le_refl _ | (simp; done) | (simp; omega) | (have := HB.out.size; simp at *; omega)) _ | with_reducible refine Below.setCell ?_ (by first | exact Nat.le_refl _ | (simp; done) | (simp; omega) | (have := HB.out.size; simp at *; omega)) _)) b)
    have HR := Lib.hid (Rd.below (by repeat (first | with_reducible exact HR.out | with_reducible apply Rd.drewN | with_reducible apply Rd.drew | with_reducible apply Rd.alloc)) b)
    have K1 : Hid (DBox _ (w.heap.size) (⟨31, s, nx, .slice p n cp⟩)) := Lib.hid (DBox.below (by repeat (first | with_reducible exact K1.out | with_reducible apply DBox.drewN | with_reducible apply DBox.drew | (with_reducible refine DBox.newAt ?_ ?_ <;> first | (simp; done) | rfl) | with_reducible apply DBox.alloc)) b)
    try clear k1a k1b k1c k1d k1z
    have k1z := K1.out.lt
    obtain ⟨k1a, k1b, k1c, k1d⟩ := K1.out.cell
    clear b
    have HU := Lib.hid (hu.base HZ.out)
    clear hu
    go_wp2_with fail
    go_ret2
    exact ⟨_, ret_two (by rw [HT.out]), by rw [HT.out]; exact HU.out, HB.out⟩

set_option maxRecDepth 100000 in
set_option maxHeartbeats 2000000 in
theorem impl_st (s nx : Int) (l : List Cd) (p : Option Addr) (n cp B : Nat) (w : World) (hn : l.length = n) (hl : n ≤ 1000000000) (ho : Own w B (.slice p n cp) l) (hw : ∀ x ∈ l, wfc x) :
    Calls Try.prog 38 #[dval s nx (.slice p n cp)] w fun e w' => e = .returned (.tuple #[.bool (stR ⟨s, nx, l⟩).1, .bool (stR ⟨s, nx, l⟩).2]) ∧ Below w.heap.size w w' := by
  have HN := Lib.hid hn
  have hr := ho.rd
  have hcp : n ≤ cp := by obtain ⟨p', c', e, h, _⟩ := ho.form; injection e with e1 e2 e3; omega
  have HR := Lib.hid hr
  have HW := Lib.hid hw
  clear hn hr hw ho
  go_enter Try.func38, Try.ntmps38
  go_wp2_with fail
  refine ((impl_isdeal s nx l p n cp _ HN.out hl hcp (by repeat (first | with_reducible exact HR.out | with_reducible apply Rd.drewN | with_reducible apply Rd.drew | with_reducible apply Rd.alloc)) HW.out)).mono ?_
  rintro e w1 ⟨rfl, b⟩
  have Sw1 := Lib.hid b.size
  have HB := Lib.hid (chain0 (w := w) (by repeat (first | with_reducible exact Below.refl _ _ | with_reducible exact HB.out | with_reducible apply Below.drew | with_reducible apply bdN | with_reducible refine Below.alloc ?_ (by first | exact Nat.le_refl _ | (simp; done) | (simp; omega) | (have := HB.out.size; simp at *; omega)) _ | with_reducible refine Below.setCell ?_ (by first | exact Nat.le_refl _ | (simp; done) | (simp; omega) | (have := HB.out.size; simp at *; omega)) _)) b)
  have HR := Lib.hid (Rd.below (by repeat (first | with_reducible exact HR.out | with_reducible apply Rd.drewN | with_reducible apply Rd.drew | with_reducible apply Rd.alloc)) b)
  have K1 : Hid (DBox _ (w.heap.size) (⟨31, s, nx, .slice p n cp⟩)) := Lib.hid (DBox.below (by repeat (first | with_reducible exact K1.out | with_reducible apply DBox.drewN | with_reducible apply DBox.drew | (with_reducible refine DBox.newAt ?_ ?_ <;> first | (simp; done) | rfl) | with_reducible apply DBox.alloc)) b)
  try clear k1a k1b k1c k1d k1z
  have k1z := K1.out.lt
  obtain ⟨k1a, k1b, k1c, k1d⟩ := K1.out.cell
  clear b
  cases hok : (Dl.mk s nx l).ok
  · have HT := Lib.hid (show stR ⟨s, nx, l⟩ = (false, false) by unfold stR; rw [if_neg (by simp [hok])])
    go_wp2_with fail
    go_ret2
    exact ⟨ret_bb (by rw [HT.out]), by repeat (first | with_reducible exact Below.refl _ _ | with_reducible exact HB.out | with_reducible apply Below.drew | with_reducible apply bdN | with_reducible refine Below.alloc ?_ (by first | exact Nat.le_refl _ | (simp; done) | (simp; omega) | (have := HB.out.size; simp at *; omega)) _ | with_reducible refine Below.setCell ?_ (by first | exact Nat.le_refl _ | (simp; done) | (simp; omega) | (have := HB.out.size; simp at *; omega)) _)⟩
  · have HT := Lib.hid (show stR ⟨s, nx, l⟩ = (stuckD ⟨s, nx, l⟩, true) by unfold stR; rw [if_pos hok])
    have HO := Lib.hid (Dl.ok_iff.1 hok)
    have HK := Lib.hid HO.out.cards
    have hl81 : n ≤ 81 := by have h1 := HO.out.len81; have h2 := HN.out; have h3 : l.length ≤ 81 := h1; omega
    clear hok
    go_wp2_with fail
    refine ((is_stuck s nx l p n cp _ HN.out hl81 (by repeat (first | with_reducible exact HR.out | with_reducible apply Rd.drewN | with_reducible apply Rd.drew | with_reducible apply Rd.alloc)) HK.out)).mono ?_
    rintro e w2 ⟨rfl, b⟩
    have Sw2 := Lib.hid b.size
    have HB := Lib.hid (chain0 (w := w) (by repeat (first | with_reducible exact Below.refl _ _ | with_reducible exact HB.out | with_reducible apply Below.drew | with_reducible apply bdN | with_reducible refine Below.alloc ?_ (by first | exact Nat.le_refl _ | (simp; done) | (simp; omega) | (have := HB.out.size; simp at *; omega)) _ | with_reducible refine Below.setCell ?_ (by first | exact Nat.le_refl _ | (simp; done) | (simp; omega) | (have := HB.out.size; simp at *; omega)) _)) b)
    have HR := Lib.hid (Rd.below (by repeat (first | with_reducible exact HR.out | with_reducible apply Rd.drewN | with_reducible apply Rd.drew | with_reducible apply Rd.alloc)) b)
    have K1 : Hid (DBox _ (w.heap.size) (⟨31, s, nx, .slice p n cp⟩)) := Lib.hid (DBox.below (by repeat (first | with_reducible exact K1.out | with_reducible apply DBox.drewN | with_reducible apply DBox.drew | (with_reducible refine DBox.newAt ?_ ?_ <;> first | (simp; done) | rfl) | with_reducible apply DBox.alloc)) b)
    try clear k1a k1b k1c k1d k1z
    have k1z := K1.out.lt
    obtain ⟨k1a, k1b, k1c, k1d⟩ := K1.out.cell
    clear b
    go_wp2_with fail
    go_ret2
    exact ⟨ret_bb (by rw [HT.out]), by repeat (first | with_reducible exact Below.refl _ _ | with_reducible exact HB.out | with_reducible apply Below.drew | with_reducible apply bdN | with_reducible refine Below.alloc ?_ (by first | exact Nat.le_refl _ | (simp; done) | (simp; omega) | (have := HB.out.size; simp at *; omega)) _ | with_reducible refine Below.setCell ?_ (by first | exact Nat.le_refl _ | (simp; done) | (simp; omega) | (have := HB.out.size; simp at *; omega)) _)⟩

set_option maxRecDepth 100000 in
set_option maxHeartbeats 2000000 in
theorem impl_ov (s nx : Int) (l : List Cd) (p : Option Addr) (n cp B : Nat) (w : World) (hn : l.length = n) (hl : n ≤ 1000000000) (ho : Own w B (.slice p n cp) l) (hw : ∀ x ∈ l, wfc x) :
    Calls Try.prog 40 #[dval s nx (.slice p n cp)] w fun e w' => e = .returned (.tuple #[.bool (ovR ⟨s, nx, l⟩).1, .bool (ovR ⟨s, nx, l⟩).2]) ∧ Below w.heap.size w w' := by
  have HN := Lib.hid hn
  have hr := ho.rd
  have hcp : n ≤ cp := by obtain ⟨p', c', e, h, _⟩ := ho.form; injection e with e1 e2 e3; omega
  have HR := Lib.hid hr
  have HW := Lib.hid hw
  clear hn hr hw ho
  go_enter Try.func40, Try.ntmps40
  go_wp2_with fail
  refine ((impl_isdeal s nx l p n cp _ HN.out hl hcp (by repeat (first | with_reducible exact HR.out | with_reducible apply Rd.drewN | with_reducible apply Rd.drew | with_reducible apply Rd.alloc)) HW.out)).mono ?_
  rintro e w1 ⟨rfl, b⟩
  have Sw1 := Lib.hid b.size
  have HB := Lib.hid (chain0 (w := w) (by repeat (first | with_reducible exact Below.refl _ _ | with_reducible exact HB.out | with_reducible apply Below.drew | with_reducible apply bdN | with_reducible refine Below.alloc ?_ (by first | exact Nat.le_refl _ | (simp; done) | (simp; omega) | (have := HB.out.size; simp at *; omega)) _ | with_reducible refine Below.setCell ?_ (by first | exact Nat.le_refl _ | (simp; done) | (simp; omega) | (have := HB.out.size; simp at *; omega)) _)) b)
  have HR := Lib.hid (Rd.below (by repeat (first | with_reducible exact HR.out | with_reducible apply Rd.drewN | with_reducible apply Rd.drew | with_reducible apply Rd.alloc)) b)
  have K1 : Hid (DBox _ (w.heap.size) (⟨31, s, nx, .slice p n cp⟩)) := Lib.hid (DBox.below (by repeat (first | with_reducible exact K1.out | with_reducible apply DBox.drewN | with_reducible apply DBox.drew | (with_reducible refine DBox.newAt ?_ ?_ <;> first | (simp; done) | rfl) | with_reducible apply DBox.alloc)) b)
  try clear k1a k1b k1c k1d k1z
  have k1z := K1.out.lt
  obtain ⟨k1a, k1b, k1c, k1d⟩ := K1.out.cell
  clear b
  cases hok : (Dl.mk s nx l).ok
  · have HT := Lib.hid (show ovR ⟨s, nx, l⟩ = (false, false) by unfold ovR; rw [if_neg (by simp [hok])])
    go_wp2_with fail
    go_ret2
    exact ⟨ret_bb (by rw [HT.out]), by repeat (first | with_reducible exact Below.refl _ _ | with_reducible exact HB.out | with_reducible apply Below.drew | with_reducible apply bdN | with_reducible refine Below.alloc ?_ (by first | exact Nat.le_refl _ | (simp; done) | (simp; omega) | (have := HB.out.size; simp at *; omega)) _ | with_reducible refine Below.setCell ?_ (by first | exact Nat.le_refl _ | (simp; done) | (simp; omega) | (have := HB.out.size; simp at *; omega)) _)⟩
  · have HT := Lib.hid (show ovR ⟨s, nx, l⟩ = (overD ⟨s, nx, l⟩, true) by unfold ovR; rw [if_pos hok])
    have HO := Lib.hid (Dl.ok_iff.1 hok)
    have HK := Lib.hid HO.out.cards
    have hl81 : n ≤ 81 := by have h1 := HO.out.len81; have h2 := HN.out; have h3 : l.length ≤ 81 := h1; omega
    clear hok
    go_wp2_with fail
    refine ((is_over s nx l p n cp _ HN.out hl81 (by repeat (first | with_reducible exact HR.out | with_reducible apply Rd.drewN | with_reducible apply Rd.drew | with_reducible apply Rd.alloc)) HK.out)).mono ?_
    rintro e w2 ⟨rfl, b⟩
    have Sw2 := Lib.hid b.size
    have HB := Lib.hid (chain0 (w := w) (by repeat (first | with_reducible exact Below.refl _ _ | with_reducible exact HB.out | with_reducible apply Below.drew | with_reducible apply bdN | with_reducible refine Below.alloc ?_ (by first | exact Nat.le_refl _ | (simp; done) | (simp; omega) | (have := HB.out.size; simp at *; omega)) _ | with_reducible refine Below.setCell ?_ (by first | exact Nat.le_refl _ | (simp; done) | (simp; omega) | (have := HB.out.size; simp at *; omega)) _)) b)
    have HR := Lib.hid (Rd.below (by repeat (first | with_reducible exact HR.out | with_reducible apply Rd.drewN | with_reducible apply Rd.drew | with_reducible apply Rd.alloc)) b)
    have K1 : Hid (DBox _ (w.heap.size) (⟨31, s, nx, .slice p n cp⟩)) := Lib.hid (DBox.below (by repeat (first | with_reducible exact K1.out | with_reducible apply DBox.drewN | with_reducible apply DBox.drew | (with_reducible refine DBox.newAt ?_ ?_ <;> first | (simp; done) | rfl) | with_reducible apply DBox.alloc)) b)
    try clear k1a k1b k1c k1d k1z
    have k1z := K1.out.lt
    obtain ⟨k1a, k1b, k1c, k1d⟩ := K1.out.cell
    clear b
    go_wp2_with fail
    go_ret2
    exact ⟨ret_bb (by rw [HT.out]), by repeat (first | with_reducible exact Below.refl _ _ | with_reducible exact HB.out | with_reducible apply Below.drew | with_reducible apply bdN | with_reducible refine Below.alloc ?_ (by first | exact Nat.le_refl _ | (simp; done) | (simp; omega) | (have := HB.out.size; simp at *; omega)) _ | with_reducible refine Below.setCell ?_ (by first | exact Nat.le_refl _ | (simp; done) | (simp; omega) | (have := HB.out.size; simp at *; omega)) _)⟩

set_option maxRecDepth 100000 in
set_option maxHeartbeats 2000000 in
theorem spec_st (s nx : Int) (l : List Cd) (p : Option Addr) (n cp B : Nat) (w : World) (hn : l.length = n) (hl : n ≤ 1000000000) (ho : Own w B (.slice p n cp) l) (hw : ∀ x ∈ l, wfc x) :
    Calls Try.prog 37 #[dval s nx (.slice p n cp)] w fun e w' => e = .returned (.tuple #[.bool (stR ⟨s, nx, l⟩).1, .bool (stR ⟨s, nx, l⟩).2]) ∧ Below w.heap.size w w' := by
  have HN := Lib.hid hn
  have hr := ho.rd
  have hcp : n ≤ cp := by obtain ⟨p', c', e, h, _⟩ := ho.form; injection e with e1 e2 e3; omega
  have HR := Lib.hid hr
  have HW := Lib.hid hw
  clear hn hr hw ho
  go_enter Try.func37, Try.ntmps37
  go_wp2_with fail
  refine ((l4_deal s nx l p n cp _ HN.out hl hcp (by repeat (first | with_reducible exact HR.out | with_reducible apply Rd.drewN | with_reducible apply Rd.drew | with_reducible apply Rd.alloc)) HW.out)).mono ?_
  rintro e w1 ⟨rfl, b⟩
  have Sw1 := Lib.hid b.size
  have HB := Lib.hid (chain0 (w := w) (by repeat (first | with_reducible exact Below.refl _ _ | with_reducible exact HB.out | with_reducible apply Below.drew | with_reducible apply bdN | with_reducible refine Below.alloc ?_ (by first | exact Nat.le_refl _ | (simp; done) | (simp; omega) | (have := HB.out.size; simp at *; omega)) _ | with_reducible refine Below.setCell ?_ (by first | exact Nat.le_refl _ | (simp; done) | (simp; omega) | (have := HB.out.size; simp at *; omega)) _)) b)
  have HR := Lib.hid (Rd.below (by repeat (first | with_reducible exact HR.out | with_reducible apply Rd.drewN | with_reducible apply Rd.drew | with_reducible apply Rd.alloc)) b)
  have K1 : Hid (DBox _ (w.heap.size) (⟨31, s, nx, .slice p n cp⟩)) := Lib.hid (DBox.below (by repeat (first | with_reducible exact K1.out | with_reducible apply DBox.drewN | with_reducible apply DBox.drew | (with_reducible refine DBox.newAt ?_ ?_ <;> first | (simp; done) | rfl) | with_reducible apply DBox.alloc)) b)
  try clear k1a k1b k1c k1d k1z
  have k1z := K1.out.lt
  obtain ⟨k1a, k1b, k1c, k1d⟩ := K1.out.cell
  clear b
  cases hok : (Dl.mk s nx l).ok
  · have HT := Lib.hid (show stR ⟨s, nx, l⟩ = (false, false) by unfold stR; rw [if_neg (by simp [hok])])
    go_wp2_with fail
    go_ret2
    exact ⟨ret_bb (by rw [HT.out]), by repeat (first | with_reducible exact Below.refl _ _ | with_reducible exact HB.out | with_reducible apply Below.drew | with_reducible apply bdN | with_reducible refine Below.alloc ?_ (by first | exact Nat.le_refl _ | (simp; done) | (simp; omega) | (have := HB.out.size; simp at *; omega)) _ | with_reducible refine Below.setCell ?_ (by first | exact Nat.le_refl _ | (simp; done) | (simp; omega) | (have := HB.out.size; simp at *; omega)) _)⟩
  · have HT := Lib.hid (show stR ⟨s, nx, l⟩ = (stuckD ⟨s, nx, l⟩, true) by unfold stR; rw [if_pos hok])
    have HO := Lib.hid (Dl.ok_iff.1 hok)
    have HK := Lib.hid HO.out.cards
    have hl81 : n ≤ 81 := by have h1 := HO.out.len81; have h2 := HN.out; have h3 : l.length ≤ 81 := h1; omega
    clear hok
    go_wp2_with fail
    refine (l4_lines l p n cp _ HN.out hl81 (by repeat (first | with_reducible exact HR.out | with_reducible apply Rd.drewN | with_reducible apply Rd.drew | with_reducible apply Rd.alloc)) HK.out HO.out.2.2.2).mono ?_
    rintro e w2 ⟨u, rfl, hu, b⟩
    obtain ⟨pu, cu, rfl, _⟩ := hu.form
    obtain ⟨m, hm⟩ : ∃ m, (lines l).length = m := ⟨_, rfl⟩
    have HSt := Lib.hid (show stuckD ⟨s, nx, l⟩ = decide (m = 0) by unfold stuckD; rw [hm])
    rw [hm]
    clear hm hu
    have Sw2 := Lib.hid b.size
    have HB := Lib.hid (chain0 (w := w) (by repeat (first | with_reducible exact Below.refl _ _ | with_reducible exact HB.out | with_reducible apply Below.drew | with_reducible apply bdN | with_reducible refine Below.alloc ?_ (by first | exact Nat.le_refl _ | (simp; done) | (simp; omega) | (have := HB.out.size; simp at *; omega)) _ | with_reducible refine Below.setCell ?_ (by first | exact Nat.le_refl _ | (simp; done) | (simp; omega) | (have := HB.out.size; simp at *; omega)) _)) b)
    have HR := Lib.hid (Rd.below (by repeat (first | with_reducible exact HR.out | with_reducible apply Rd.drewN | with_reducible apply Rd.drew | with_reducible apply Rd.alloc)) b)
    have K1 : Hid (DBox _ (w.heap.size) (⟨31, s, nx, .slice p n cp⟩)) := Lib.hid (DBox.below (by repeat (first | with_reducible exact K1.out | with_reducible apply DBox.drewN | with_reducible apply DBox.drew | (with_reducible refine DBox.newAt ?_ ?_ <;> first | (simp; done) | rfl) | with_reducible apply DBox.alloc)) b)
    try clear k1a k1b k1c k1d k1z
    have k1z := K1.out.lt
    obtain ⟨k1a, k1b, k1c, k1d⟩ := K1.out.cell
    clear b
    go_wp2_with fail
    go_ret2
    exact ⟨ret_bb (by rw [HT.out, HSt.out]; congr 1; rw [Bool.eq_iff_iff]; simp), by repeat (first | with_reducible exact Below.refl _ _ | with_reducible exact HB.out | with_reducible apply Below.drew | with_reducible apply bdN | with_reducible refine Below.alloc ?_ (by first | exact Nat.le_refl _ | (simp; done) | (simp; omega) | (have := HB.out.size; simp at *; omega)) _ | with_reducible refine Below.setCell ?_ (by first | exact Nat.le_refl _ | (simp; done) | (simp; omega) | (have := HB.out.size; simp at *; omega)) _)⟩

set_option maxRecDepth 100000 in
set_option maxHeartbeats 2000000 in
theorem spec_ov (s nx : Int) (l : List Cd) (p : Option Addr) (n cp B : Nat) (w : World) (hn : l.length = n) (hl : n ≤ 1000000000) (ho : Own w B (.slice p n cp) l) (hw : ∀ x ∈ l, wfc x) :
    Calls Try.prog 39 #[dval s nx (.slice p n cp)] w fun e w' => e = .returned (.tuple #[.bool (ovR ⟨s, nx, l⟩).1, .bool (ovR ⟨s, nx, l⟩).2]) ∧ Below w.heap.size w w' := by
  have HN := Lib.hid hn
  have hr := ho.rd
  have hcp : n ≤ cp := by obtain ⟨p', c', e, h, _⟩ := ho.form; injection e with e1 e2 e3; omega
  have HR := Lib.hid hr
  have HW := Lib.hid hw
  clear hn hr hw ho
  go_enter Try.func39, Try.ntmps39
  go_wp2_with fail
  refine ((l4_deal s nx l p n cp _ HN.out hl hcp (by repeat (first | with_reducible exact HR.out | with_reducible apply Rd.drewN | with_reducible apply Rd.drew | with_reducible apply Rd.alloc)) HW.out)).mono ?_
  rintro e w1 ⟨rfl, b⟩
  have Sw1 := Lib.hid b.size
  have HB := Lib.hid (chain0 (w := w) (by repeat (first | with_reducible exact Below.refl _ _ | with_reducible exact HB.out | with_reducible apply Below.drew | with_reducible apply bdN | with_reducible refine Below.alloc ?_ (by first | exact Nat.le_refl _ | (simp; done) | (simp; omega) | (have := HB.out.size; simp at *; omega)) _ | with_reducible refine Below.setCell ?_ (by first | exact Nat.le_refl _ | (simp; done) | (simp; omega) | (have := HB.out.size; simp at *; omega)) _)) b)
  have HR := Lib.hid (Rd.below (by repeat (first | with_reducible exact HR.out | with_reducible apply Rd.drewN | with_reducible apply Rd.drew | with_reducible apply Rd.alloc)) b)
  have K1 : Hid (DBox _ (w.heap.size) (⟨31, s, nx, .slice p n cp⟩)) := Lib.hid (DBox.below (by repeat (first | with_reducible exact K1.out | with_reducible apply DBox.drewN | with_reducible apply DBox.drew | (with_reducible refine DBox.newAt ?_ ?_ <;> first | (simp; done) | rfl) | with_reducible apply DBox.alloc)) b)
  try clear k1a k1b k1c k1d k1z
  have k1z := K1.out.lt
  obtain ⟨k1a, k1b, k1c, k1d⟩ := K1.out.cell
  clear b
  cases hok : (Dl.mk s nx l).ok
  · have HT := Lib.hid (show ovR ⟨s, nx, l⟩ = (false, false) by unfold ovR; rw [if_neg (by simp [hok])])
    go_wp2_with fail
    go_ret2
    exact ⟨ret_bb (by rw [HT.out]), by repeat (first | with_reducible exact Below.refl _ _ | with_reducible exact HB.out | with_reducible apply Below.drew | with_reducible apply bdN | with_reducible refine Below.alloc ?_ (by first | exact Nat.le_refl _ | (simp; done) | (simp; omega) | (have := HB.out.size; simp at *; omega)) _ | with_reducible refine Below.setCell ?_ (by first | exact Nat.le_refl _ | (simp; done) | (simp; omega) | (have := HB.out.size; simp at *; omega)) _)⟩
  · have HT := Lib.hid (show ovR ⟨s, nx, l⟩ = (overD ⟨s, nx, l⟩, true) by unfold ovR; rw [if_pos hok])
    have HO := Lib.hid (Dl.ok_iff.1 hok)
    have HK := Lib.hid HO.out.cards
    have hl81 : n ≤ 81 := by have h1 := HO.out.len81; have h2 := HN.out; have h3 : l.length ≤ 81 := h1; omega
    clear hok
    go_wp2_with fail
    refine ((l4_over s nx l p n cp _ HN.out hl81 (by repeat (first | with_reducible exact HR.out | with_reducible apply Rd.drewN | with_reducible apply Rd.drew | with_reducible apply Rd.alloc)) HK.out HO.out.2.2.2)).mono ?_
    rintro e w2 ⟨rfl, b⟩
    have Sw2 := Lib.hid b.size
    have HB := Lib.hid (chain0 (w := w) (by repeat (first | with_reducible exact Below.refl _ _ | with_reducible exact HB.out | with_reducible apply Below.drew | with_reducible apply bdN | with_reducible refine Below.alloc ?_ (by first | exact Nat.le_refl _ | (simp; done) | (simp; omega) | (have := HB.out.size; simp at *; omega)) _ | with_reducible refine Below.setCell ?_ (by first | exact Nat.le_refl _ | (simp; done) | (simp; omega) | (have := HB.out.size; simp at *; omega)) _)) b)
    have HR := Lib.hid (Rd.below (by repeat (first | with_reducible exact HR.out | with_reducible apply Rd.drewN | with_reducible apply Rd.drew | with_reducible apply Rd.alloc)) b)
    have K1 : Hid (DBox _ (w.heap.size) (⟨31, s, nx, .slice p n cp⟩)) := Lib.hid (DBox.below (by repeat (first | with_reducible exact K1.out | with_reducible apply DBox.drewN | with_reducible apply DBox.drew | (with_reducible refine DBox.newAt ?_ ?_ <;> first | (simp; done) | rfl) | with_reducible apply DBox.alloc)) b)
    try clear k1a k1b k1c k1d k1z
    have k1z := K1.out.lt
    obtain ⟨k1a, k1b, k1c, k1d⟩ := K1.out.cell
    clear b
    go_wp2_with fail
    go_ret2
    exact ⟨ret_bb (by rw [HT.out]), by repeat (first | with_reducible exact Below.refl _ _ | with_reducible exact HB.out | with_reducible apply Below.drew | with_reducible apply bdN | with_reducible refine Below.alloc ?_ (by first | exact Nat.le_refl _ | (simp; done) | (simp; omega) | (have := HB.out.size; simp at *; omega)) _ | with_reducible refine Below.setCell ?_ (by first | exact Nat.le_refl _ | (simp; done) | (simp; omega) | (have := HB.out.size; simp at *; omega)) _)⟩

end Go.Proofs.Ytghjopgbhodccaa.deal
