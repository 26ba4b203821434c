/- New Deals, and laying more: the program and the model alike. -/
import Derived.Test.YteccbcbijfcpmaaQx
import Derived.Test.YteccbcbijfcpmaaQr
import Derived.Test.YteccbcbijfcpmaaQi
namespace Go.Proofs.Yteccbcbijfcpmaa.deal
open Go.RowKit
open cards
set_option linter.unusedVariables false

theorem new_is (s : Int) : (newD s).nx = 12 ∧ (newD s).l = (pile s).take 12 ∧ (newD s).s = s := by
  refine ⟨rfl, ?_, rfl⟩
  show [] ++ ((pile s).drop ((0 : Int).toNat)).take _ = _
  rw [List.nil_append]; rfl
noncomputable def ndR (s : Int) : Dl × Bool := if isSd s = true then (newD s, true) else (⟨0, 0, []⟩, false)
theorem ndR_len (s : Int) : (ndR s).1.l.length ≤ 1000 := by
  unfold ndR; split
  · have := (new_facts (s := s)).2.1
    show (newD s).l.length ≤ _; omega
  · simp

set_option maxRecDepth 100000 in
set_option maxHeartbeats 2000000 in
theorem new_deal (s : Int) (w : World) (h : 0 ≤ s ∧ s ≤ 65535) :
    Calls Try.prog 57 #[.int .i64 s] w fun e w' => ∃ u, e = .returned (dval s (newD s).nx u) ∧ Own w' w.heap.size u (newD s).l ∧ Below w.heap.size w w' := by
  have HLa := Lib.hid (fun w => impl_lay s 0 12 [] none 0 0 w h (by omega) ⟨by omega, by omega⟩ rfl (by omega) (fun hp => by simp [flat] at hp) (fun _ => rfl))
  have HD : Hid (layD ⟨s, ((0 : Nat) : Int), []⟩ 12 = newD s) := Lib.hid rfl
  rw [HD.out] at HLa
  go_enter Try.func57, Try.ntmps57
  go_wp2_with fail
  refine (HLa.out _).mono ?_
  rintro e w1 ⟨u, rfl, hu, b⟩
  have HU := Lib.hid (hu.base (B' := w.heap.size + 1) (by simp))
  obtain ⟨pv, cv, rfl, _, _, _⟩ := HU.out.form
  clear hu
  have Sw1 := Lib.hid b.size
  have HB := Lib.hid (chain0 (w := w) (by repeat (first | with_reducible exact Below.refl _ _ | with_reducible exact HB.out | with_reducible apply Below.drew | with_reducible apply bdN | with_reducible refine Below.alloc ?_ (by first | exact Nat.le_refl _ | with_reducible exact HB.out.size | omega | (simp; done) | (simp; omega) | (have := HB.out.size; simp at *; omega)) _ | with_reducible refine Below.setCell ?_ (by first | exact Nat.le_refl _ | with_reducible exact HB.out.size | omega | (simp; done) | (simp; omega) | (have := HB.out.size; simp at *; omega)) _)) b)
  have K2 : Hid (DBox _ (w.heap.size) (⟨24, 0, 0, .slice none 0 0⟩)) := Lib.hid (DBox.below (by repeat (first | with_reducible exact K2.out | with_reducible apply DBox.drewN | with_reducible apply DBox.drew | (with_reducible refine DBox.newAt ?_ ?_ <;> first | (simp; done) | rfl) | with_reducible apply DBox.alloc)) b)
  try clear k2a k2b k2c k2d k2z
  have k2z := K2.out.lt
  obtain ⟨k2a, k2b, k2c, k2d⟩ := K2.out.cell
  try clear k2f
  have k2f := K2.out.frozen
  clear b
  have k2f := K2.out.frozen
  go_wp2_with fail
  try simp only [Exit.inBlock, Exit.then]
  refine bodyPost_ret (res_deal Try.results57 rfl (K2.out.set_ _ _ _)) rfl ?_
  exact ⟨_, rfl, (Own.far (Own.far (Own.far HU.out (Nat.lt_succ_self _) _) (Nat.lt_succ_self _) _) (Nat.lt_succ_self _) _).base (show w.heap.size ≤ w.heap.size + 1 by omega), by repeat (first | with_reducible exact Below.refl _ _ | with_reducible exact HB.out | with_reducible apply Below.drew | with_reducible apply bdN | with_reducible refine Below.alloc ?_ (by first | exact Nat.le_refl _ | with_reducible exact HB.out.size | omega | (simp; done) | (simp; omega) | (have := HB.out.size; simp at *; omega)) _ | with_reducible refine Below.setCell ?_ (by first | exact Nat.le_refl _ | with_reducible exact HB.out.size | omega | (simp; done) | (simp; omega) | (have := HB.out.size; simp at *; omega)) _)⟩

set_option maxRecDepth 100000 in
set_option maxHeartbeats 2000000 in
theorem spec_nd (s : Int) (w : World) :
    Calls Try.prog 53 #[.int .i64 s] w fun e w' => ∃ u, e = .returned (.tuple #[dval (ndR s).1.s (ndR s).1.nx u, .bool (ndR s).2]) ∧ Own w' w.heap.size u (ndR s).1.l ∧ Below w.heap.size w w' := by
  go_enter Try.func53, Try.ntmps53
  go_wp2_with fail
  refine ((l4_seed s _)).mono ?_
  rintro e w1 ⟨rfl, b⟩
  have Sw1 := Lib.hid b.size
  have HB := Lib.hid (chain0 (w := w) (by repeat (first | with_reducible exact Below.refl _ _ | with_reducible exact HB.out | with_reducible apply Below.drew | with_reducible apply bdN | with_reducible refine Below.alloc ?_ (by first | exact Nat.le_refl _ | with_reducible exact HB.out.size | omega | (simp; done) | (simp; omega) | (have := HB.out.size; simp at *; omega)) _ | with_reducible refine Below.setCell ?_ (by first | exact Nat.le_refl _ | with_reducible exact HB.out.size | omega | (simp; done) | (simp; omega) | (have := HB.out.size; simp at *; omega)) _)) b)
  have K2 : Hid (DBox _ (w.heap.size) (⟨24, 0, 0, .slice none 0 0⟩)) := Lib.hid (DBox.below (by repeat (first | with_reducible exact K2.out | with_reducible apply DBox.drewN | with_reducible apply DBox.drew | (with_reducible refine DBox.newAt ?_ ?_ <;> first | (simp; done) | rfl) | with_reducible apply DBox.alloc)) b)
  try clear k2a k2b k2c k2d k2z
  have k2z := K2.out.lt
  obtain ⟨k2a, k2b, k2c, k2d⟩ := K2.out.cell
  try clear k2f
  have k2f := K2.out.frozen
  clear b
  cases hs : isSd s
  · have HT := Lib.hid (show ndR s = (⟨0, 0, []⟩, false) by unfold ndR; rw [if_neg (by simp [hs])])
    go_wp2_with fail
    try simp only [Exit.inBlock, Exit.then]
    refine bodyPost_ret (res_deal2 Try.results53 rfl (K2.out.set_ _ _ _)) rfl ?_
    exact ⟨.slice none 0 0, by rw [HT.out]; rfl, by rw [HT.out]; exact Own.none_ _ _, by repeat (first | with_reducible exact Below.refl _ _ | with_reducible exact HB.out | with_reducible apply Below.drew | with_reducible apply bdN | with_reducible refine Below.alloc ?_ (by first | exact Nat.le_refl _ | with_reducible exact HB.out.size | omega | (simp; done) | (simp; omega) | (have := HB.out.size; simp at *; omega)) _ | with_reducible refine Below.setCell ?_ (by first | exact Nat.le_refl _ | with_reducible exact HB.out.size | omega | (simp; done) | (simp; omega) | (have := HB.out.size; simp at *; omega)) _)⟩
  · have HT := Lib.hid (show ndR s = (newD s, true) by unfold ndR; rw [if_pos hs])
    have hs2 := isSd_iff.1 hs
    have HPl := Lib.hid (pile_len s)
    have HTl := Lib.hid (show ((pile s).take 12).length = 12 by rw [List.length_take, pile_len]; rfl)
    have HI := Lib.hid (new_is s)
    clear hs
    go_wp2_with fail
    refine (l4_pile s _ hs2).mono ?_
    rintro e w2 ⟨u, rfl, hu, b⟩
    obtain ⟨g, c, rfl, hc, hr⟩ := hu.form
    rw [HPl.out] at hc ⊢
    have Sw2 := Lib.hid b.size
    have HB := Lib.hid (chain0 (w := w) (by repeat (first | with_reducible exact Below.refl _ _ | with_reducible exact HB.out | with_reducible apply Below.drew | with_reducible apply bdN | with_reducible refine Below.alloc ?_ (by first | exact Nat.le_refl _ | with_reducible exact HB.out.size | omega | (simp; done) | (simp; omega) | (have := HB.out.size; simp at *; omega)) _ | with_reducible refine Below.setCell ?_ (by first | exact Nat.le_refl _ | with_reducible exact HB.out.size | omega | (simp; done) | (simp; omega) | (have := HB.out.size; simp at *; omega)) _)) b)
    have K2 : Hid (DBox _ (w.heap.size) (⟨24, 0, 0, .slice none 0 0⟩)) := Lib.hid (DBox.below (by repeat (first | with_reducible exact K2.out | with_reducible apply DBox.drewN | with_reducible apply DBox.drew | (with_reducible refine DBox.newAt ?_ ?_ <;> first | (simp; done) | rfl) | with_reducible apply DBox.alloc)) b)
    try clear k2a k2b k2c k2d k2z
    have k2z := K2.out.lt
    obtain ⟨k2a, k2b, k2c, k2d⟩ := K2.out.cell
    try clear k2f
    have k2f := K2.out.frozen
    clear b
    have HR := Lib.hid (hr.take 12)
    have hc12 : (12 : Int) ≤ (c : Int) := by omega
    clear hu hr
    go_wp2_with fail
    refine (l2_own ((pile s).take 12) (some ⟨g, 0, none⟩) 12 c _ HTl.out (by omega) HR.out (fun h => by cases h)).mono ?_
    rintro e w3 ⟨u, rfl, hu, b⟩
    have HZ := Lib.hid (show w.heap.size + 1 ≤ _ from K2.out.lt)
    have Sw3 := Lib.hid b.size
    have HB := Lib.hid (chain0 (w := w) (by repeat (first | with_reducible exact Below.refl _ _ | with_reducible exact HB.out | with_reducible apply Below.drew | with_reducible apply bdN | with_reducible refine Below.alloc ?_ (by first | exact Nat.le_refl _ | with_reducible exact HB.out.size | omega | (simp; done) | (simp; omega) | (have := HB.out.size; simp at *; omega)) _ | with_reducible refine Below.setCell ?_ (by first | exact Nat.le_refl _ | with_reducible exact HB.out.size | omega | (simp; done) | (simp; omega) | (have := HB.out.size; simp at *; omega)) _)) b)
    have K2 : Hid (DBox _ (w.heap.size) (⟨24, 0, 0, .slice none 0 0⟩)) := Lib.hid (DBox.below (by repeat (first | with_reducible exact K2.out | with_reducible apply DBox.drewN | with_reducible apply DBox.drew | (with_reducible refine DBox.newAt ?_ ?_ <;> first | (simp; done) | rfl) | with_reducible apply DBox.alloc)) b)
    try clear k2a k2b k2c k2d k2z
    have k2z := K2.out.lt
    obtain ⟨k2a, k2b, k2c, k2d⟩ := K2.out.cell
    try clear k2f
    have k2f := K2.out.frozen
    clear b
    have HU := Lib.hid (hu.base HZ.out)
    obtain ⟨pv, cv, rfl, _, _, _⟩ := HU.out.1.form
    clear hu
    rw [HTl.out] at HU ⊢
    have HU := Lib.hid HU.out.1
    have k2f := K2.out.frozen
    go_wp2_with fail
    try simp only [Exit.inBlock, Exit.then]
    refine bodyPost_ret (res_deal2 Try.results53 rfl (K2.out.set_ _ _ _)) rfl ?_
    exact ⟨_, by rw [HT.out]; rfl, by rw [HT.out]; show Own _ _ _ (newD s).l; rw [HI.out.2.1]; exact (Own.far (Own.far (Own.far HU.out (Nat.lt_succ_self _) _) (Nat.lt_succ_self _) _) (Nat.lt_succ_self _) _).base (show w.heap.size ≤ w.heap.size + 1 by omega), by repeat (first | with_reducible exact Below.refl _ _ | with_reducible exact HB.out | with_reducible apply Below.drew | with_reducible apply bdN | with_reducible refine Below.alloc ?_ (by first | exact Nat.le_refl _ | with_reducible exact HB.out.size | omega | (simp; done) | (simp; omega) | (have := HB.out.size; simp at *; omega)) _ | with_reducible refine Below.setCell ?_ (by first | exact Nat.le_refl _ | with_reducible exact HB.out.size | omega | (simp; done) | (simp; omega) | (have := HB.out.size; simp at *; omega)) _)⟩

noncomputable def lmR (d : Dl) : Dl × Bool := if d.ok = true ∧ stuckD d = true ∧ d.nx ≠ 81 then (layD d 3, true) else (⟨0, 0, []⟩, false)
theorem lay_le (d : Dl) (n : Int) : (layD d n).l.length ≤ d.l.length + 81 := by
  simp only [layD, List.length_append, List.length_take, List.length_drop, pile_len]
  omega
theorem lmR_len (d : Dl) : (lmR d).1.l.length ≤ 1000 := by
  unfold lmR; split
  · rename_i h
    have h1 := (Dl.ok_iff.1 h.1).len81
    have h2 := lay_le d 3
    show (layD d 3).l.length ≤ _
    omega
  · simp

end Go.Proofs.Yteccbcbijfcpmaa.deal
