/- New Deals, and laying more: the program and the model alike. -/
import Derived.Test.YtghjopgbhodccaaQx
import Derived.Test.YtghjopgbhodccaaQr
import Derived.Test.YtghjopgbhodccaaQi
namespace Go.Proofs.Ytghjopgbhodccaa.deal
open Go.RowKit
open cards
set_option linter.unusedVariables false

theorem new_is (s : Int) : (newD s).nx = 12 ∧ (newD s).l = (pile s).take 12 ∧ (newD s).s = s := by
  refine ⟨rfl, ?_, rfl⟩
  show [] ++ ((pile s).drop ((0 : Int).toNat)).take _ = _
  rw [List.nil_append]; rfl
noncomputable def ndR (s : Int) : Dl × Bool := if isSd s = true then (newD s, true) else (⟨0, 0, []⟩, false)
theorem ndR_len (s : Int) : (ndR s).1.l.length ≤ 1000 := by
  unfold ndR; split
  · have := (new_facts (s := s)).2.1
    show (newD s).l.length ≤ _; omega
  · simp

set_option maxRecDepth 100000 in
set_option maxHeartbeats 2000000 in
theorem new_deal (s : Int) (w : World) (h : 0 ≤ s ∧ s ≤ 65535) :
    Calls Try.prog 66 #[.int .i64 s] w fun e w' => ∃ u, e = .returned (dval s (newD s).nx u) ∧ Own w' w.heap.size u (newD s).l ∧ Below w.heap.size w w' := by
  have HLa := Lib.hid (fun w => impl_lay s 0 12 [] none 0 0 w h (by omega) ⟨by omega, by omega⟩ rfl (by omega) (fun hp => by simp [flat] at hp) (fun _ => rfl))
  have HD : Hid (layD ⟨s, ((0 : Nat) : Int), []⟩ 12 = newD s) := Lib.hid rfl
  rw [HD.out] at HLa
  go_enter Try.func66, Try.ntmps66
  go_wp2_with fail
  refine (HLa.out _).mono ?_
  rintro e w1 ⟨u, rfl, hu, b⟩
  have HU := Lib.hid (hu.base (B' := w.heap.size + 1) (by simp))
  obtain ⟨pv, cv, rfl, _, _, _⟩ := HU.out.form
  clear hu
  have Sw1 := Lib.hid b.size
  have HB := Lib.hid (chain0 (w := w) (by repeat (first | with_reducible exact Below.refl _ _ | with_reducible exact HB.out | with_reducible apply Below.drew | with_reducible apply bdN | with_reducible refine Below.alloc ?_ (by first | exact Nat.le_refl _ | (simp; done) | (simp; omega) | (have := HB.out.size; simp at *; omega)) _ | with_reducible refine Below.setCell ?_ (by first | exact Nat.le_refl _ | (simp; done) | (simp; omega) | (have := HB.out.size; simp at *; omega)) _)) b)
  have K2 : Hid (DBox _ (w.heap.size) (⟨31, 0, 0, .slice none 0 0⟩)) := Lib.hid (DBox.below (by repeat (first | with_reducible exact K2.out | with_reducible apply DBox.drewN | with_reducible apply DBox.drew | (with_reducible refine DBox.newAt ?_ ?_ <;> first | (simp; done) | rfl) | with_reducible apply DBox.alloc)) b)
  try clear k2a k2b k2c k2d k2z
  have k2z := K2.out.lt
  obtain ⟨k2a, k2b, k2c, k2d⟩ := K2.out.cell
  try clear k2f
  have k2f := K2.out.frozen
  clear b
  have k2f := K2.out.frozen
  go_wp2_with fail
  try simp only [Exit.inBlock, Exit.then]
  refine bodyPost_ret (res_deal Try.results66 rfl (K2.out.set_ _ _ _)) rfl ?_
  exact ⟨_, rfl, (Own.far (Own.far (Own.far HU.out (Nat.lt_succ_self _) _) (Nat.lt_succ_self _) _) (Nat.lt_succ_self _) _).base (show w.heap.size ≤ w.heap.size + 1 by omega), by repeat (first | with_reducible exact Below.refl _ _ | with_reducible exact HB.out | with_reducible apply Below.drew | with_reducible apply bdN | with_reducible refine Below.alloc ?_ (by first | exact Nat.le_refl _ | (simp; done) | (simp; omega) | (have := HB.out.size; simp at *; omega)) _ | with_reducible refine Below.setCell ?_ (by first | exact Nat.le_refl _ | (simp; done) | (simp; omega) | (have := HB.out.size; simp at *; omega)) _)⟩

set_option maxRecDepth 100000 in
set_option maxHeartbeats 2000000 in
theorem impl_nd (s : Int) (w : World) :
    Calls Try.prog 24 #[.int .i64 s] w fun e w' => ∃ u, e = .returned (.tuple #[dval (ndR s).1.s (ndR s).1.nx u, .bool (ndR s).2]) ∧ Own w' w.heap.size u (ndR s).1.l ∧ Below w.heap.size w w' := by
  go_enter Try.func24, Try.ntmps24
  go_wp2_with fail
  refine ((is_seed s _)).mono ?_
  rintro e w1 ⟨rfl, b⟩
  have Sw1 := Lib.hid b.size
  have HB := Lib.hid (chain0 (w := w) (by repeat (first | with_reducible exact Below.refl _ _ | with_reducible exact HB.out | with_reducible apply Below.drew | with_reducible apply bdN | with_reducible refine Below.alloc ?_ (by first | exact Nat.le_refl _ | (simp; done) | (simp; omega) | (have := HB.out.size; simp at *; omega)) _ | with_reducible refine Below.setCell ?_ (by first | exact Nat.le_refl _ | (simp; done) | (simp; omega) | (have := HB.out.size; simp at *; omega)) _)) b)
  have K2 : Hid (DBox _ (w.heap.size) (⟨31, 0, 0, .slice none 0 0⟩)) := Lib.hid (DBox.below (by repeat (first | with_reducible exact K2.out | with_reducible apply DBox.drewN | with_reducible apply DBox.drew | (with_reducible refine DBox.newAt ?_ ?_ <;> first | (simp; done) | rfl) | with_reducible apply DBox.alloc)) b)
  try clear k2a k2b k2c k2d k2z
  have k2z := K2.out.lt
  obtain ⟨k2a, k2b, k2c, k2d⟩ := K2.out.cell
  try clear k2f
  have k2f := K2.out.frozen
  clear b
  cases hs : isSd s
  · have HT := Lib.hid (show ndR s = (⟨0, 0, []⟩, false) by unfold ndR; rw [if_neg (by simp [hs])])
    go_wp2_with fail
    try simp only [Exit.inBlock, Exit.then]
    refine bodyPost_ret (res_deal2 Try.results24 rfl (K2.out.set_ _ _ _)) rfl ?_
    exact ⟨.slice none 0 0, by rw [HT.out]; rfl, by rw [HT.out]; exact Own.none_ _ _, by repeat (first | with_reducible exact Below.refl _ _ | with_reducible exact HB.out | with_reducible apply Below.drew | with_reducible apply bdN | with_reducible refine Below.alloc ?_ (by first | exact Nat.le_refl _ | (simp; done) | (simp; omega) | (have := HB.out.size; simp at *; omega)) _ | with_reducible refine Below.setCell ?_ (by first | exact Nat.le_refl _ | (simp; done) | (simp; omega) | (have := HB.out.size; simp at *; omega)) _)⟩
  · have HT := Lib.hid (show ndR s = (newD s, true) by unfold ndR; rw [if_pos hs])
    have hs2 := isSd_iff.1 hs
    clear hs
    go_wp2_with fail
    refine (new_deal s _ hs2).mono ?_
    rintro e w2 ⟨u, rfl, hu, b⟩
    have HZ := Lib.hid (show w.heap.size + 1 ≤ _ from K2.out.lt)
    have Sw2 := Lib.hid b.size
    have HB := Lib.hid (chain0 (w := w) (by repeat (first | with_reducible exact Below.refl _ _ | with_reducible exact HB.out | with_reducible apply Below.drew | with_reducible apply bdN | with_reducible refine Below.alloc ?_ (by first | exact Nat.le_refl _ | (simp; done) | (simp; omega) | (have := HB.out.size; simp at *; omega)) _ | with_reducible refine Below.setCell ?_ (by first | exact Nat.le_refl _ | (simp; done) | (simp; omega) | (have := HB.out.size; simp at *; omega)) _)) b)
    have K2 : Hid (DBox _ (w.heap.size) (⟨31, 0, 0, .slice none 0 0⟩)) := Lib.hid (DBox.below (by repeat (first | with_reducible exact K2.out | with_reducible apply DBox.drewN | with_reducible apply DBox.drew | (with_reducible refine DBox.newAt ?_ ?_ <;> first | (simp; done) | rfl) | with_reducible apply DBox.alloc)) b)
    try clear k2a k2b k2c k2d k2z
    have k2z := K2.out.lt
    obtain ⟨k2a, k2b, k2c, k2d⟩ := K2.out.cell
    try clear k2f
    have k2f := K2.out.frozen
    clear b
    have HU := Lib.hid (hu.base HZ.out)
    obtain ⟨pv, cv, rfl, _, _, _⟩ := HU.out.form
    clear hu
    have k2f := K2.out.frozen
    go_wp2_with fail
    try simp only [Exit.inBlock, Exit.then]
    refine bodyPost_ret (res_deal2 Try.results24 rfl (K2.out.set_ _ _ _)) rfl ?_
    exact ⟨_, by rw [HT.out]; rfl, by rw [HT.out]; exact (Own.far (Own.far (Own.far HU.out (Nat.lt_succ_self _) _) (Nat.lt_succ_self _) _) (Nat.lt_succ_self _) _).base (show w.heap.size ≤ w.heap.size + 1 by omega), by repeat (first | with_reducible exact Below.refl _ _ | with_reducible exact HB.out | with_reducible apply Below.drew | with_reducible apply bdN | with_reducible refine Below.alloc ?_ (by first | exact Nat.le_refl _ | (simp; done) | (simp; omega) | (have := HB.out.size; simp at *; omega)) _ | with_reducible refine Below.setCell ?_ (by first | exact Nat.le_refl _ | (simp; done) | (simp; omega) | (have := HB.out.size; simp at *; omega)) _)⟩

set_option maxRecDepth 100000 in
set_option maxHeartbeats 2000000 in
theorem spec_nd (s : Int) (w : World) :
    Calls Try.prog 23 #[.int .i64 s] w fun e w' => ∃ u, e = .returned (.tuple #[dval (ndR s).1.s (ndR s).1.nx u, .bool (ndR s).2]) ∧ Own w' w.heap.size u (ndR s).1.l ∧ Below w.heap.size w w' := by
  go_enter Try.func23, Try.ntmps23
  go_wp2_with fail
  refine ((l4_seed s _)).mono ?_
  rintro e w1 ⟨rfl, b⟩
  have Sw1 := Lib.hid b.size
  have HB := Lib.hid (chain0 (w := w) (by repeat (first | with_reducible exact Below.refl _ _ | with_reducible exact HB.out | with_reducible apply Below.drew | with_reducible apply bdN | with_reducible refine Below.alloc ?_ (by first | exact Nat.le_refl _ | (simp; done) | (simp; omega) | (have := HB.out.size; simp at *; omega)) _ | with_reducible refine Below.setCell ?_ (by first | exact Nat.le_refl _ | (simp; done) | (simp; omega) | (have := HB.out.size; simp at *; omega)) _)) b)
  have K2 : Hid (DBox _ (w.heap.size) (⟨31, 0, 0, .slice none 0 0⟩)) := Lib.hid (DBox.below (by repeat (first | with_reducible exact K2.out | with_reducible apply DBox.drewN | with_reducible apply DBox.drew | (with_reducible refine DBox.newAt ?_ ?_ <;> first | (simp; done) | rfl) | with_reducible apply DBox.alloc)) b)
  try clear k2a k2b k2c k2d k2z
  have k2z := K2.out.lt
  obtain ⟨k2a, k2b, k2c, k2d⟩ := K2.out.cell
  try clear k2f
  have k2f := K2.out.frozen
  clear b
  cases hs : isSd s
  · have HT := Lib.hid (show ndR s = (⟨0, 0, []⟩, false) by unfold ndR; rw [if_neg (by simp [hs])])
    go_wp2_with fail
    try simp only [Exit.inBlock, Exit.then]
    refine bodyPost_ret (res_deal2 Try.results23 rfl (K2.out.set_ _ _ _)) rfl ?_
    exact ⟨.slice none 0 0, by rw [HT.out]; rfl, by rw [HT.out]; exact Own.none_ _ _, by repeat (first | with_reducible exact Below.refl _ _ | with_reducible exact HB.out | with_reducible apply Below.drew | with_reducible apply bdN | with_reducible refine Below.alloc ?_ (by first | exact Nat.le_refl _ | (simp; done) | (simp; omega) | (have := HB.out.size; simp at *; omega)) _ | with_reducible refine Below.setCell ?_ (by first | exact Nat.le_refl _ | (simp; done) | (simp; omega) | (have := HB.out.size; simp at *; omega)) _)⟩
  · have HT := Lib.hid (show ndR s = (newD s, true) by unfold ndR; rw [if_pos hs])
    have hs2 := isSd_iff.1 hs
    have HPl := Lib.hid (pile_len s)
    have HTl := Lib.hid (show ((pile s).take 12).length = 12 by rw [List.length_take, pile_len]; rfl)
    have HI := Lib.hid (new_is s)
    clear hs
    go_wp2_with fail
    refine (l4_pile s _ hs2).mono ?_
    rintro e w2 ⟨u, rfl, hu, b⟩
    obtain ⟨g, c, rfl, hc, hr⟩ := hu.form
    rw [HPl.out] at hc ⊢
    have Sw2 := Lib.hid b.size
    have HB := Lib.hid (chain0 (w := w) (by repeat (first | with_reducible exact Below.refl _ _ | with_reducible exact HB.out | with_reducible apply Below.drew | with_reducible apply bdN | with_reducible refine Below.alloc ?_ (by first | exact Nat.le_refl _ | (simp; done) | (simp; omega) | (have := HB.out.size; simp at *; omega)) _ | with_reducible refine Below.setCell ?_ (by first | exact Nat.le_refl _ | (simp; done) | (simp; omega) | (have := HB.out.size; simp at *; omega)) _)) b)
    have K2 : Hid (DBox _ (w.heap.size) (⟨31, 0, 0, .slice none 0 0⟩)) := Lib.hid (DBox.below (by repeat (first | with_reducible exact K2.out | with_reducible apply DBox.drewN | with_reducible apply DBox.drew | (with_reducible refine DBox.newAt ?_ ?_ <;> first | (simp; done) | rfl) | with_reducible apply DBox.alloc)) b)
    try clear k2a k2b k2c k2d k2z
    have k2z := K2.out.lt
    obtain ⟨k2a, k2b, k2c, k2d⟩ := K2.out.cell
    try clear k2f
    have k2f := K2.out.frozen
    clear b
    have HR := Lib.hid (hr.take 12)
    have hc12 : (12 : Int) ≤ (c : Int) := by omega
    clear hu hr
    go_wp2_with fail
    refine (l2_own ((pile s).take 12) (some ⟨g, 0, none⟩) 12 c _ HTl.out (by omega) HR.out (fun h => by cases h)).mono ?_
    rintro e w3 ⟨u, rfl, hu, b⟩
    have HZ := Lib.hid (show w.heap.size + 1 ≤ _ from K2.out.lt)
    have Sw3 := Lib.hid b.size
    have HB := Lib.hid (chain0 (w := w) (by repeat (first | with_reducible exact Below.refl _ _ | with_reducible exact HB.out | with_reducible apply Below.drew | with_reducible apply bdN | with_reducible refine Below.alloc ?_ (by first | exact Nat.le_refl _ | (simp; done) | (simp; omega) | (have := HB.out.size; simp at *; omega)) _ | with_reducible refine Below.setCell ?_ (by first | exact Nat.le_refl _ | (simp; done) | (simp; omega) | (have := HB.out.size; simp at *; omega)) _)) b)
    have K2 : Hid (DBox _ (w.heap.size) (⟨31, 0, 0, .slice none 0 0⟩)) := Lib.hid (DBox.below (by repeat (first | with_reducible exact K2.out | with_reducible apply DBox.drewN | with_reducible apply DBox.drew | (with_reducible refine DBox.newAt ?_ ?_ <;> first | (simp; done) | rfl) | with_reducible apply DBox.alloc)) b)
    try clear k2a k2b k2c k2d k2z
    have k2z := K2.out.lt
    obtain ⟨k2a, k2b, k2c, k2d⟩ := K2.out.cell
    try clear k2f
    have k2f := K2.out.frozen
    clear b
    have HU := Lib.hid (hu.base HZ.out)
    obtain ⟨pv, cv, rfl, _, _, _⟩ := HU.out.1.form
    clear hu
    rw [HTl.out] at HU ⊢
    have HU := Lib.hid HU.out.1
    have k2f := K2.out.frozen
    go_wp2_with fail
    try simp only [Exit.inBlock, Exit.then]
    refine bodyPost_ret (res_deal2 Try.results23 rfl (K2.out.set_ _ _ _)) rfl ?_
    exact ⟨_, by rw [HT.out]; rfl, by rw [HT.out]; show Own _ _ _ (newD s).l; rw [HI.out.2.1]; exact (Own.far (Own.far (Own.far HU.out (Nat.lt_succ_self _) _) (Nat.lt_succ_self _) _) (Nat.lt_succ_self _) _).base (show w.heap.size ≤ w.heap.size + 1 by omega), by repeat (first | with_reducible exact Below.refl _ _ | with_reducible exact HB.out | with_reducible apply Below.drew | with_reducible apply bdN | with_reducible refine Below.alloc ?_ (by first | exact Nat.le_refl _ | (simp; done) | (simp; omega) | (have := HB.out.size; simp at *; omega)) _ | with_reducible refine Below.setCell ?_ (by first | exact Nat.le_refl _ | (simp; done) | (simp; omega) | (have := HB.out.size; simp at *; omega)) _)⟩

noncomputable def lmR (d : Dl) : Dl × Bool := if d.ok = true ∧ stuckD d = true ∧ d.nx ≠ 81 then (layD d 3, true) else (⟨0, 0, []⟩, false)
theorem lay_le (d : Dl) (n : Int) : (layD d n).l.length ≤ d.l.length + 81 := by
  simp only [layD, List.length_append, List.length_take, List.length_drop, pile_len]
  omega
theorem lmR_len (d : Dl) : (lmR d).1.l.length ≤ 1000 := by
  unfold lmR; split
  · rename_i h
    have h1 := (Dl.ok_iff.1 h.1).len81
    have h2 := lay_le d 3
    show (layD d 3).l.length ≤ _
    omega
  · simp

set_option maxRecDepth 100000 in
set_option maxHeartbeats 2000000 in
theorem impl_lm (s nx : Int) (l : List Cd) (p : Option Addr) (n cp B : Nat) (w : World) (hn : l.length = n) (hl : n ≤ 1000000000) (ho : Own w B (.slice p n cp) l) (hw : ∀ x ∈ l, wfc x) :
    Calls Try.prog 42 #[dval s nx (.slice p n cp)] w fun e w' => ∃ u, e = .returned (.tuple #[dval (lmR ⟨s, nx, l⟩).1.s (lmR ⟨s, nx, l⟩).1.nx u, .bool (lmR ⟨s, nx, l⟩).2]) ∧ Own w' w.heap.size u (lmR ⟨s, nx, l⟩).1.l ∧ Below w.heap.size w w' := by
  have HN := Lib.hid hn
  have hr := ho.rd
  have hcp : n ≤ cp := by obtain ⟨p', c', e, h, _⟩ := ho.form; injection e with e1 e2 e3; omega
  have HR := Lib.hid hr
  have HW := Lib.hid hw
  have H0 := Lib.hid (Own.nil0 ho)
  clear hn hr hw ho
  go_enter Try.func42, Try.ntmps42
  go_wp2_with fail
  refine ((impl_isdeal s nx l p n cp _ HN.out hl hcp (by repeat (first | with_reducible exact HR.out | with_reducible apply Rd.drewN | with_reducible apply Rd.drew | with_reducible apply Rd.alloc)) HW.out)).mono ?_
  rintro e w1 ⟨rfl, b⟩
  have Sw1 := Lib.hid b.size
  have HB := Lib.hid (chain0 (w := w) (by repeat (first | with_reducible exact Below.refl _ _ | with_reducible exact HB.out | with_reducible apply Below.drew | with_reducible apply bdN | with_reducible refine Below.alloc ?_ (by first | exact Nat.le_refl _ | (simp; done) | (simp; omega) | (have := HB.out.size; simp at *; omega)) _ | with_reducible refine Below.setCell ?_ (by first | exact Nat.le_refl _ | (simp; done) | (simp; omega) | (have := HB.out.size; simp at *; omega)) _)) b)
  have HR := Lib.hid (Rd.below (by repeat (first | with_reducible exact HR.out | with_reducible apply Rd.drewN | with_reducible apply Rd.drew | with_reducible apply Rd.alloc)) b)
  have K1 : Hid (DBox _ (w.heap.size) (⟨31, s, nx, .slice p n cp⟩)) := Lib.hid (DBox.below (by repeat (first | with_reducible exact K1.out | with_reducible apply DBox.drewN | with_reducible apply DBox.drew | (with_reducible refine DBox.newAt ?_ ?_ <;> first | (simp; done) | rfl) | with_reducible apply DBox.alloc)) b)
  have K2 : Hid (DBox _ (w.heap.size + 1) (⟨31, 0, 0, .slice none 0 0⟩)) := Lib.hid (DBox.below (by repeat (first | with_reducible exact K2.out | with_reducible apply DBox.drewN | with_reducible apply DBox.drew | (with_reducible refine DBox.newAt ?_ ?_ <;> first | (simp; done) | rfl) | with_reducible apply DBox.alloc)) b)
  try clear k1a k1b k1c k1d k1z
  have k1z := K1.out.lt
  obtain ⟨k1a, k1b, k1c, k1d⟩ := K1.out.cell
  try clear k2a k2b k2c k2d k2z
  have k2z := K2.out.lt
  obtain ⟨k2a, k2b, k2c, k2d⟩ := K2.out.cell
  try clear k2f
  have k2f := K2.out.frozen
  clear b
  cases hok : (Dl.mk s nx l).ok
  · have HT := Lib.hid (show lmR ⟨s, nx, l⟩ = (⟨0, 0, []⟩, false) by unfold lmR; rw [if_neg (by simp [hok])])
    go_wp2_with fail
    try simp only [Exit.inBlock, Exit.then]
    refine bodyPost_ret (res_deal2 Try.results42 rfl (K2.out.set_ _ _ _)) rfl ?_
    exact ⟨.slice none 0 0, by rw [HT.out]; rfl, by rw [HT.out]; exact Own.none_ _ _, by repeat (first | with_reducible exact Below.refl _ _ | with_reducible exact HB.out | with_reducible apply Below.drew | with_reducible apply bdN | with_reducible refine Below.alloc ?_ (by first | exact Nat.le_refl _ | (simp; done) | (simp; omega) | (have := HB.out.size; simp at *; omega)) _ | with_reducible refine Below.setCell ?_ (by first | exact Nat.le_refl _ | (simp; done) | (simp; omega) | (have := HB.out.size; simp at *; omega)) _)⟩
  · have HOk := Lib.hid hok
    have HO := Lib.hid (Dl.ok_iff.1 hok)
    have HK := Lib.hid HO.out.cards
    have hl81 : n ≤ 81 := by have h1 := HO.out.len81; have h2 := HN.out; have h3 : l.length ≤ 81 := h1; omega
    clear hok
    go_wp2_with fail
    refine ((is_stuck s nx l p n cp _ HN.out hl81 (by repeat (first | with_reducible exact HR.out | with_reducible apply Rd.drewN | with_reducible apply Rd.drew | with_reducible apply Rd.alloc)) HK.out)).mono ?_
    rintro e w2 ⟨rfl, b⟩
    have Sw2 := Lib.hid b.size
    have HB := Lib.hid (chain0 (w := w) (by repeat (first | with_reducible exact Below.refl _ _ | with_reducible exact HB.out | with_reducible apply Below.drew | with_reducible apply bdN | with_reducible refine Below.alloc ?_ (by first | exact Nat.le_refl _ | (simp; done) | (simp; omega) | (have := HB.out.size; simp at *; omega)) _ | with_reducible refine Below.setCell ?_ (by first | exact Nat.le_refl _ | (simp; done) | (simp; omega) | (have := HB.out.size; simp at *; omega)) _)) b)
    have HR := Lib.hid (Rd.below (by repeat (first | with_reducible exact HR.out | with_reducible apply Rd.drewN | with_reducible apply Rd.drew | with_reducible apply Rd.alloc)) b)
    have K1 : Hid (DBox _ (w.heap.size) (⟨31, s, nx, .slice p n cp⟩)) := Lib.hid (DBox.below (by repeat (first | with_reducible exact K1.out | with_reducible apply DBox.drewN | with_reducible apply DBox.drew | (with_reducible refine DBox.newAt ?_ ?_ <;> first | (simp; done) | rfl) | with_reducible apply DBox.alloc)) b)
    have K2 : Hid (DBox _ (w.heap.size + 1) (⟨31, 0, 0, .slice none 0 0⟩)) := Lib.hid (DBox.below (by repeat (first | with_reducible exact K2.out | with_reducible apply DBox.drewN | with_reducible apply DBox.drew | (with_reducible refine DBox.newAt ?_ ?_ <;> first | (simp; done) | rfl) | with_reducible apply DBox.alloc)) b)
    try clear k1a k1b k1c k1d k1z
    have k1z := K1.out.lt
    obtain ⟨k1a, k1b, k1c, k1d⟩ := K1.out.cell
    try clear k2a k2b k2c k2d k2z
    have k2z := K2.out.lt
    obtain ⟨k2a, k2b, k2c, k2d⟩ := K2.out.cell
    try clear k2f
    have k2f := K2.out.frozen
    clear b
    cases hst : stuckD ⟨s, nx, l⟩
    · have HT := Lib.hid (show lmR ⟨s, nx, l⟩ = (⟨0, 0, []⟩, false) by unfold lmR; rw [if_neg (by simp [hst])])
      go_wp2_with fail
      try simp only [Exit.inBlock, Exit.then]
      refine bodyPost_ret (res_deal2 Try.results42 rfl (K2.out.set_ _ _ _)) rfl ?_
      exact ⟨.slice none 0 0, by rw [HT.out]; rfl, by rw [HT.out]; exact Own.none_ _ _, by repeat (first | with_reducible exact Below.refl _ _ | with_reducible exact HB.out | with_reducible apply Below.drew | with_reducible apply bdN | with_reducible refine Below.alloc ?_ (by first | exact Nat.le_refl _ | (simp; done) | (simp; omega) | (have := HB.out.size; simp at *; omega)) _ | with_reducible refine Below.setCell ?_ (by first | exact Nat.le_refl _ | (simp; done) | (simp; omega) | (have := HB.out.size; simp at *; omega)) _)⟩
    · have HSt := Lib.hid hst
      clear hst
      go_wp2_with fail
      refine ((is_over s nx l p n cp _ HN.out hl81 (by repeat (first | with_reducible exact HR.out | with_reducible apply Rd.drewN | with_reducible apply Rd.drew | with_reducible apply Rd.alloc)) HK.out)).mono ?_
      rintro e w3 ⟨rfl, b⟩
      have Sw3 := Lib.hid b.size
      have HB := Lib.hid (chain0 (w := w) (by repeat (first | with_reducible exact Below.refl _ _ | with_reducible exact HB.out | with_reducible apply Below.drew | with_reducible apply bdN | with_reducible refine Below.alloc ?_ (by first | exact Nat.le_refl _ | (simp; done) | (simp; omega) | (have := HB.out.size; simp at *; omega)) _ | with_reducible refine Below.setCell ?_ (by first | exact Nat.le_refl _ | (simp; done) | (simp; omega) | (have := HB.out.size; simp at *; omega)) _)) b)
      have HR := Lib.hid (Rd.below (by repeat (first | with_reducible exact HR.out | with_reducible apply Rd.drewN | with_reducible apply Rd.drew | with_reducible apply Rd.alloc)) b)
      have K1 : Hid (DBox _ (w.heap.size) (⟨31, s, nx, .slice p n cp⟩)) := Lib.hid (DBox.below (by repeat (first | with_reducible exact K1.out | with_reducible apply DBox.drewN | with_reducible apply DBox.drew | (with_reducible refine DBox.newAt ?_ ?_ <;> first | (simp; done) | rfl) | with_reducible apply DBox.alloc)) b)
      have K2 : Hid (DBox _ (w.heap.size + 1) (⟨31, 0, 0, .slice none 0 0⟩)) := Lib.hid (DBox.below (by repeat (first | with_reducible exact K2.out | with_reducible apply DBox.drewN | with_reducible apply DBox.drew | (with_reducible refine DBox.newAt ?_ ?_ <;> first | (simp; done) | rfl) | with_reducible apply DBox.alloc)) b)
      try clear k1a k1b k1c k1d k1z
      have k1z := K1.out.lt
      obtain ⟨k1a, k1b, k1c, k1d⟩ := K1.out.cell
      try clear k2a k2b k2c k2d k2z
      have k2z := K2.out.lt
      obtain ⟨k2a, k2b, k2c, k2d⟩ := K2.out.cell
      try clear k2f
      have k2f := K2.out.frozen
      clear b
      by_cases h81 : nx = 81
      · have HT := Lib.hid (show lmR ⟨s, nx, l⟩ = (⟨0, 0, []⟩, false) by unfold lmR; rw [if_neg (by simp [h81])])
        have ho2 : overD ⟨s, nx, l⟩ = true := by unfold overD; rw [HSt.out, h81]; rfl
        clear h81
        rw [ho2]
        go_wp2_with fail
        try simp only [Exit.inBlock, Exit.then]
        refine bodyPost_ret (res_deal2 Try.results42 rfl (K2.out.set_ _ _ _)) rfl ?_
        exact ⟨.slice none 0 0, by rw [HT.out]; rfl, by rw [HT.out]; exact Own.none_ _ _, by repeat (first | with_reducible exact Below.refl _ _ | with_reducible exact HB.out | with_reducible apply Below.drew | with_reducible apply bdN | with_reducible refine Below.alloc ?_ (by first | exact Nat.le_refl _ | (simp; done) | (simp; omega) | (have := HB.out.size; simp at *; omega)) _ | with_reducible refine Below.setCell ?_ (by first | exact Nat.le_refl _ | (simp; done) | (simp; omega) | (have := HB.out.size; simp at *; omega)) _)⟩
      · have ho2 : overD ⟨s, nx, l⟩ = false := by unfold overD; simp [h81]
        have HT0 := Lib.hid (show lmR ⟨s, nx, l⟩ = (layD ⟨s, nx, l⟩ 3, true) by unfold lmR; rw [if_pos ⟨HOk.out, HSt.out, h81⟩])
        clear h81
        rw [ho2]
        have hnx := HO.out.2.1
        obtain ⟨a, ha⟩ : ∃ a : Nat, nx = (a : Int) := ⟨nx.toNat, by have h1 : 0 ≤ nx := hnx.1; omega⟩
        have ha81 : a ≤ 81 := by have h1 : nx ≤ 81 := hnx.2; omega
        subst ha
        have HT := Lib.hid HT0.out
        go_wp2_with fail
        refine (impl_lay s a 3 l p n cp _ HO.out.1 ha81 ⟨by omega, by omega⟩ HN.out (by omega) (by repeat (first | with_reducible exact HR.out | with_reducible apply Rd.drewN | with_reducible apply Rd.drew | with_reducible apply Rd.alloc)) H0.out).mono ?_
        rintro e w4 ⟨u, rfl, hu, b⟩
        have HZ := Lib.hid (show w.heap.size + 1 + 1 ≤ _ from K2.out.lt)
        have Sw4 := Lib.hid b.size
        have HB := Lib.hid (chain0 (w := w) (by repeat (first | with_reducible exact Below.refl _ _ | with_reducible exact HB.out | with_reducible apply Below.drew | with_reducible apply bdN | with_reducible refine Below.alloc ?_ (by first | exact Nat.le_refl _ | (simp; done) | (simp; omega) | (have := HB.out.size; simp at *; omega)) _ | with_reducible refine Below.setCell ?_ (by first | exact Nat.le_refl _ | (simp; done) | (simp; omega) | (have := HB.out.size; simp at *; omega)) _)) b)
        have HR := Lib.hid (Rd.below (by repeat (first | with_reducible exact HR.out | with_reducible apply Rd.drewN | with_reducible apply Rd.drew | with_reducible apply Rd.alloc)) b)
        have K2 : Hid (DBox _ (w.heap.size + 1) (⟨31, 0, 0, .slice none 0 0⟩)) := Lib.hid (DBox.below (by repeat (first | with_reducible exact K2.out | with_reducible apply DBox.drewN | with_reducible apply DBox.drew | (with_reducible refine DBox.newAt ?_ ?_ <;> first | (simp; done) | rfl) | with_reducible apply DBox.alloc)) b)
        have K1 : Hid (DBox _ (w.heap.size) (⟨31, s, a, .slice p n cp⟩)) := Lib.hid (DBox.below (by repeat (first | with_reducible exact K1.out | with_reducible apply DBox.drewN | with_reducible apply DBox.drew | (with_reducible refine DBox.newAt ?_ ?_ <;> first | (simp; done) | rfl) | with_reducible apply DBox.alloc)) b)
        try clear k2a k2b k2c k2d k2z
        have k2z := K2.out.lt
        obtain ⟨k2a, k2b, k2c, k2d⟩ := K2.out.cell
        try clear k2f
        have k2f := K2.out.frozen
        try clear k1a k1b k1c k1d k1z
        have k1z := K1.out.lt
        obtain ⟨k1a, k1b, k1c, k1d⟩ := K1.out.cell
        clear b
        have HU := Lib.hid (hu.base HZ.out)
        obtain ⟨pv, cv, rfl, _, _, _⟩ := HU.out.form
        clear hu
        have k2f := K2.out.frozen
        go_wp2_with fail
        try simp only [Exit.inBlock, Exit.then]
        refine bodyPost_ret (res_deal2 Try.results42 rfl (K2.out.set_ _ _ _)) rfl ?_
        exact ⟨_, by rw [HT.out]; rfl, by rw [HT.out]; exact (Own.far (Own.far (Own.far HU.out (Nat.lt_succ_self _) _) (Nat.lt_succ_self _) _) (Nat.lt_succ_self _) _).base (show w.heap.size ≤ w.heap.size + 1 + 1 by omega), by repeat (first | with_reducible exact Below.refl _ _ | with_reducible exact HB.out | with_reducible apply Below.drew | with_reducible apply bdN | with_reducible refine Below.alloc ?_ (by first | exact Nat.le_refl _ | (simp; done) | (simp; omega) | (have := HB.out.size; simp at *; omega)) _ | with_reducible refine Below.setCell ?_ (by first | exact Nat.le_refl _ | (simp; done) | (simp; omega) | (have := HB.out.size; simp at *; omega)) _)⟩

set_option maxRecDepth 100000 in
set_option maxHeartbeats 2000000 in
theorem spec_lm (s nx : Int) (l : List Cd) (p : Option Addr) (n cp B : Nat) (w : World) (hn : l.length = n) (hl : n ≤ 1000000000) (ho : Own w B (.slice p n cp) l) (hw : ∀ x ∈ l, wfc x) :
    Calls Try.prog 41 #[dval s nx (.slice p n cp)] w fun e w' => ∃ u, e = .returned (.tuple #[dval (lmR ⟨s, nx, l⟩).1.s (lmR ⟨s, nx, l⟩).1.nx u, .bool (lmR ⟨s, nx, l⟩).2]) ∧ Own w' w.heap.size u (lmR ⟨s, nx, l⟩).1.l ∧ Below w.heap.size w w' := by
  have HN := Lib.hid hn
  have hr := ho.rd
  have hcp : n ≤ cp := by obtain ⟨p', c', e, h, _⟩ := ho.form; injection e with e1 e2 e3; omega
  have HR := Lib.hid hr
  have HW := Lib.hid hw
  have H0 := Lib.hid (Own.nil0 ho)
  clear hn hr hw ho
  go_enter Try.func41, Try.ntmps41
  go_wp2_with fail
  refine ((l4_deal s nx l p n cp _ HN.out hl hcp (by repeat (first | with_reducible exact HR.out | with_reducible apply Rd.drewN | with_reducible apply Rd.drew | with_reducible apply Rd.alloc)) HW.out)).mono ?_
  rintro e w1 ⟨rfl, b⟩
  have Sw1 := Lib.hid b.size
  have HB := Lib.hid (chain0 (w := w) (by repeat (first | with_reducible exact Below.refl _ _ | with_reducible exact HB.out | with_reducible apply Below.drew | with_reducible apply bdN | with_reducible refine Below.alloc ?_ (by first | exact Nat.le_refl _ | (simp; done) | (simp; omega) | (have := HB.out.size; simp at *; omega)) _ | with_reducible refine Below.setCell ?_ (by first | exact Nat.le_refl _ | (simp; done) | (simp; omega) | (have := HB.out.size; simp at *; omega)) _)) b)
  have HR := Lib.hid (Rd.below (by repeat (first | with_reducible exact HR.out | with_reducible apply Rd.drewN | with_reducible apply Rd.drew | with_reducible apply Rd.alloc)) b)
  have K1 : Hid (DBox _ (w.heap.size) (⟨31, s, nx, .slice p n cp⟩)) := Lib.hid (DBox.below (by repeat (first | with_reducible exact K1.out | with_reducible apply DBox.drewN | with_reducible apply DBox.drew | (with_reducible refine DBox.newAt ?_ ?_ <;> first | (simp; done) | rfl) | with_reducible apply DBox.alloc)) b)
  have K2 : Hid (DBox _ (w.heap.size + 1) (⟨31, 0, 0, .slice none 0 0⟩)) := Lib.hid (DBox.below (by repeat (first | with_reducible exact K2.out | with_reducible apply DBox.drewN | with_reducible apply DBox.drew | (with_reducible refine DBox.newAt ?_ ?_ <;> first | (simp; done) | rfl) | with_reducible apply DBox.alloc)) b)
  try clear k1a k1b k1c k1d k1z
  have k1z := K1.out.lt
  obtain ⟨k1a, k1b, k1c, k1d⟩ := K1.out.cell
  try clear k2a k2b k2c k2d k2z
  have k2z := K2.out.lt
  obtain ⟨k2a, k2b, k2c, k2d⟩ := K2.out.cell
  try clear k2f
  have k2f := K2.out.frozen
  clear b
  cases hok : (Dl.mk s nx l).ok
  · have HT := Lib.hid (show lmR ⟨s, nx, l⟩ = (⟨0, 0, []⟩, false) by unfold lmR; rw [if_neg (by simp [hok])])
    go_wp2_with fail
    try simp only [Exit.inBlock, Exit.then]
    refine bodyPost_ret (res_deal2 Try.results41 rfl (K2.out.set_ _ _ _)) rfl ?_
    exact ⟨.slice none 0 0, by rw [HT.out]; rfl, by rw [HT.out]; exact Own.none_ _ _, by repeat (first | with_reducible exact Below.refl _ _ | with_reducible exact HB.out | with_reducible apply Below.drew | with_reducible apply bdN | with_reducible refine Below.alloc ?_ (by first | exact Nat.le_refl _ | (simp; done) | (simp; omega) | (have := HB.out.size; simp at *; omega)) _ | with_reducible refine Below.setCell ?_ (by first | exact Nat.le_refl _ | (simp; done) | (simp; omega) | (have := HB.out.size; simp at *; omega)) _)⟩
  · have HOk := Lib.hid hok
    have HO := Lib.hid (Dl.ok_iff.1 hok)
    have HK := Lib.hid HO.out.cards
    have hl81 : n ≤ 81 := by have h1 := HO.out.len81; have h2 := HN.out; have h3 : l.length ≤ 81 := h1; omega
    clear hok
    go_wp2_with fail
    refine (l4_lines l p n cp _ HN.out hl81 (by repeat (first | with_reducible exact HR.out | with_reducible apply Rd.drewN | with_reducible apply Rd.drew | with_reducible apply Rd.alloc)) HK.out HO.out.2.2.2).mono ?_
    rintro e w2 ⟨u, rfl, hu, b⟩
    obtain ⟨pu, cu, rfl, _⟩ := hu.form
    obtain ⟨m, hm⟩ : ∃ m, (lines l).length = m := ⟨_, rfl⟩
    have HSd := Lib.hid (show stuckD ⟨s, nx, l⟩ = decide (m = 0) by unfold stuckD; rw [hm])
    rw [hm]
    clear hm hu
    have Sw2 := Lib.hid b.size
    have HB := Lib.hid (chain0 (w := w) (by repeat (first | with_reducible exact Below.refl _ _ | with_reducible exact HB.out | with_reducible apply Below.drew | with_reducible apply bdN | with_reducible refine Below.alloc ?_ (by first | exact Nat.le_refl _ | (simp; done) | (simp; omega) | (have := HB.out.size; simp at *; omega)) _ | with_reducible refine Below.setCell ?_ (by first | exact Nat.le_refl _ | (simp; done) | (simp; omega) | (have := HB.out.size; simp at *; omega)) _)) b)
    have HR := Lib.hid (Rd.below (by repeat (first | with_reducible exact HR.out | with_reducible apply Rd.drewN | with_reducible apply Rd.drew | with_reducible apply Rd.alloc)) b)
    have K1 : Hid (DBox _ (w.heap.size) (⟨31, s, nx, .slice p n cp⟩)) := Lib.hid (DBox.below (by repeat (first | with_reducible exact K1.out | with_reducible apply DBox.drewN | with_reducible apply DBox.drew | (with_reducible refine DBox.newAt ?_ ?_ <;> first | (simp; done) | rfl) | with_reducible apply DBox.alloc)) b)
    have K2 : Hid (DBox _ (w.heap.size + 1) (⟨31, 0, 0, .slice none 0 0⟩)) := Lib.hid (DBox.below (by repeat (first | with_reducible exact K2.out | with_reducible apply DBox.drewN | with_reducible apply DBox.drew | (with_reducible refine DBox.newAt ?_ ?_ <;> first | (simp; done) | rfl) | with_reducible apply DBox.alloc)) b)
    try clear k1a k1b k1c k1d k1z
    have k1z := K1.out.lt
    obtain ⟨k1a, k1b, k1c, k1d⟩ := K1.out.cell
    try clear k2a k2b k2c k2d k2z
    have k2z := K2.out.lt
    obtain ⟨k2a, k2b, k2c, k2d⟩ := K2.out.cell
    try clear k2f
    have k2f := K2.out.frozen
    clear b
    by_cases hm0 : 0 < m
    · have HT := Lib.hid (show lmR ⟨s, nx, l⟩ = (⟨0, 0, []⟩, false) by unfold lmR; rw [if_neg (fun h => by rw [HSd.out] at h; have := of_decide_eq_true h.2.1; omega)])
      have hi : (0 : Int) < (m : Int) := by omega
      go_wp2_with fail
      try simp only [Exit.inBlock, Exit.then]
      refine bodyPost_ret (res_deal2 Try.results41 rfl (K2.out.set_ _ _ _)) rfl ?_
      exact ⟨.slice none 0 0, by rw [HT.out]; rfl, by rw [HT.out]; exact Own.none_ _ _, by repeat (first | with_reducible exact Below.refl _ _ | with_reducible exact HB.out | with_reducible apply Below.drew | with_reducible apply bdN | with_reducible refine Below.alloc ?_ (by first | exact Nat.le_refl _ | (simp; done) | (simp; omega) | (have := HB.out.size; simp at *; omega)) _ | with_reducible refine Below.setCell ?_ (by first | exact Nat.le_refl _ | (simp; done) | (simp; omega) | (have := HB.out.size; simp at *; omega)) _)⟩
    · obtain rfl : m = 0 := by omega
      have HSt := Lib.hid (show stuckD ⟨s, nx, l⟩ = true by rw [HSd.out]; rfl)
      by_cases h81 : nx = 81
      · have HT := Lib.hid (show lmR ⟨s, nx, l⟩ = (⟨0, 0, []⟩, false) by unfold lmR; rw [if_neg (by simp [h81])])
        have hd2 : (nx == 81) = true := by simp [h81]
        clear h81 hm0
        go_wp2_with fail
        try simp only [Exit.inBlock, Exit.then]
        refine bodyPost_ret (res_deal2 Try.results41 rfl (K2.out.set_ _ _ _)) rfl ?_
        exact ⟨.slice none 0 0, by rw [HT.out]; rfl, by rw [HT.out]; exact Own.none_ _ _, by repeat (first | with_reducible exact Below.refl _ _ | with_reducible exact HB.out | with_reducible apply Below.drew | with_reducible apply bdN | with_reducible refine Below.alloc ?_ (by first | exact Nat.le_refl _ | (simp; done) | (simp; omega) | (have := HB.out.size; simp at *; omega)) _ | with_reducible refine Below.setCell ?_ (by first | exact Nat.le_refl _ | (simp; done) | (simp; omega) | (have := HB.out.size; simp at *; omega)) _)⟩
      · have hd2 : (nx == 81) = false := by simp [h81]
        clear hm0
        have HT0 := Lib.hid (show lmR ⟨s, nx, l⟩ = (layD ⟨s, nx, l⟩ 3, true) by unfold lmR; rw [if_pos ⟨HOk.out, HSt.out, h81⟩])
        clear h81

        have hnx := HO.out.2.1
        obtain ⟨a, ha⟩ : ∃ a : Nat, nx = (a : Int) := ⟨nx.toNat, by have h1 : 0 ≤ nx := hnx.1; omega⟩
        have ha81 : a ≤ 81 := by have h1 : nx ≤ 81 := hnx.2; omega
        subst ha
        have HT := Lib.hid HT0.out
        go_wp2_with fail
        refine (l4_lay s a 3 l p n cp _ HO.out.1 ha81 ⟨by omega, by omega⟩ HN.out (by omega) (by repeat (first | with_reducible exact HR.out | with_reducible apply Rd.drewN | with_reducible apply Rd.drew | with_reducible apply Rd.alloc)) H0.out).mono ?_
        rintro e w4 ⟨u, rfl, hu, b⟩
        have HZ := Lib.hid (show w.heap.size + 1 + 1 ≤ _ from K2.out.lt)
        have Sw4 := Lib.hid b.size
        have HB := Lib.hid (chain0 (w := w) (by repeat (first | with_reducible exact Below.refl _ _ | with_reducible exact HB.out | with_reducible apply Below.drew | with_reducible apply bdN | with_reducible refine Below.alloc ?_ (by first | exact Nat.le_refl _ | (simp; done) | (simp; omega) | (have := HB.out.size; simp at *; omega)) _ | with_reducible refine Below.setCell ?_ (by first | exact Nat.le_refl _ | (simp; done) | (simp; omega) | (have := HB.out.size; simp at *; omega)) _)) b)
        have HR := Lib.hid (Rd.below (by repeat (first | with_reducible exact HR.out | with_reducible apply Rd.drewN | with_reducible apply Rd.drew | with_reducible apply Rd.alloc)) b)
        have K2 : Hid (DBox _ (w.heap.size + 1) (⟨31, 0, 0, .slice none 0 0⟩)) := Lib.hid (DBox.below (by repeat (first | with_reducible exact K2.out | with_reducible apply DBox.drewN | with_reducible apply DBox.drew | (with_reducible refine DBox.newAt ?_ ?_ <;> first | (simp; done) | rfl) | with_reducible apply DBox.alloc)) b)
        have K1 : Hid (DBox _ (w.heap.size) (⟨31, s, a, .slice p n cp⟩)) := Lib.hid (DBox.below (by repeat (first | with_reducible exact K1.out | with_reducible apply DBox.drewN | with_reducible apply DBox.drew | (with_reducible refine DBox.newAt ?_ ?_ <;> first | (simp; done) | rfl) | with_reducible apply DBox.alloc)) b)
        try clear k2a k2b k2c k2d k2z
        have k2z := K2.out.lt
        obtain ⟨k2a, k2b, k2c, k2d⟩ := K2.out.cell
        try clear k2f
        have k2f := K2.out.frozen
        try clear k1a k1b k1c k1d k1z
        have k1z := K1.out.lt
        obtain ⟨k1a, k1b, k1c, k1d⟩ := K1.out.cell
        clear b
        have HU := Lib.hid (hu.base HZ.out)
        obtain ⟨pv, cv, rfl, _, _, _⟩ := HU.out.form
        clear hu
        have k2f := K2.out.frozen
        go_wp2_with fail
        try simp only [Exit.inBlock, Exit.then]
        refine bodyPost_ret (res_deal2 Try.results41 rfl (K2.out.set_ _ _ _)) rfl ?_
        exact ⟨_, by rw [HT.out]; rfl, by rw [HT.out]; exact (Own.far (Own.far (Own.far HU.out (Nat.lt_succ_self _) _) (Nat.lt_succ_self _) _) (Nat.lt_succ_self _) _).base (show w.heap.size ≤ w.heap.size + 1 + 1 by omega), by repeat (first | with_reducible exact Below.refl _ _ | with_reducible exact HB.out | with_reducible apply Below.drew | with_reducible apply bdN | with_reducible refine Below.alloc ?_ (by first | exact Nat.le_refl _ | (simp; done) | (simp; omega) | (have := HB.out.size; simp at *; omega)) _ | with_reducible refine Below.setCell ?_ (by first | exact Nat.le_refl _ | (simp; done) | (simp; omega) | (have := HB.out.size; simp at *; omega)) _)⟩

end Go.Proofs.Ytghjopgbhodccaa.deal
