/- Steps of a Deal: the program and the model alike. -/
import Derived.Test.YtghjopgbhodccaaUb
import Derived.Test.YtghjopgbhodccaaUa
import Derived.Deep.RegionHeld3
namespace Go.Proofs.Ytghjopgbhodccaa.deal
open Go.RowKit
open cards
set_option linter.unusedVariables false

theorem step_le (d : Dl) : (stepD d).l.length ≤ d.l.length + 81 := by
  unfold stepD
  split
  · exact lay_le d 3
  · rename_i t r h
    have h1 := lay_le ⟨d.s, d.nx, keep d.l t d.l.length⟩ (needD d.l t)
    have h2 := keep_le d.l t d.l.length
    show (layD ⟨d.s, d.nx, keep d.l t d.l.length⟩ (needD d.l t)).l.length ≤ _
    simp only at h1
    omega
theorem step_nil {d : Dl} (h : lines d.l = []) : stepD d = layD d 3 := by unfold stepD; rw [h]
theorem step_cons {d : Dl} {t : A3} {r : List A3} (h : lines d.l = t :: r) : stepD d = takeD d t := by unfold stepD; rw [h]
theorem Rd.head3 {w : World} {b o : Nat} {t : A3} {r : List A3} (h : Rd w (some ⟨b, o, none⟩) (A3.flat (t :: r))) : w.cell? ⟨b, o, none⟩ = some (.int .i64 t.a) ∧ w.cell? ⟨b, o + 1, none⟩ = some (.int .i64 t.b) ∧ w.cell? ⟨b, o + 2, none⟩ = some (.int .i64 t.c) := by
  obtain ⟨b', o', t2, e, _, ht, c0, c1, c2⟩ := h.aA3 (k := 0) (by simp)
  injection e with e
  injection e with e1 e2
  subst e1; subst e2
  obtain rfl : t = t2 := by simpa using ht
  exact ⟨by simpa using c0, by simpa using c1, by simpa using c2⟩
noncomputable def dsR (d : Dl) : Dl × Bool := if d.ok = true ∧ overD d = false then (stepD d, true) else (⟨0, 0, []⟩, false)
theorem dsR_len (d : Dl) : (dsR d).1.l.length ≤ 1000 := by
  unfold dsR; split
  · rename_i h
    have h1 := (Dl.ok_iff.1 h.1).len81
    have h2 := step_le d
    show (stepD d).l.length ≤ _
    omega
  · simp

set_option maxRecDepth 100000 in
set_option maxHeartbeats 4000000 in
theorem step_of (s : Int) (a : Nat) (l : List Cd) (p : Option Addr) (n cp : Nat) (w : World) (ho : (Dl.mk s a l).okP) (hn : l.length = n) (hl : n ≤ 81) (hr : Rd w p (flat l)) (h0 : p = none → cp = 0) :
    Calls Try.prog 84 #[dval s a (.slice p n cp)] w fun e w' => ∃ u, e = .returned (dval s (stepD ⟨s, a, l⟩).nx u) ∧ Own w' w.heap.size u (stepD ⟨s, a, l⟩).l ∧ Below w.heap.size w w' := by
  have HO := Lib.hid ho
  have HN := Lib.hid hn
  have HR := Lib.hid hr
  have H0 := Lib.hid h0
  have ha81 : a ≤ 81 := by have h1 : (a : Int) ≤ 81 := ho.2.1.2; omega
  clear ho hn hr h0
  go_enter Try.func84, Try.ntmps84
  go_wp2_with fail
  refine (lines_of l p n cp _ HN.out hl (by repeat (first | with_reducible exact HR.out | with_reducible apply Rd.drewN | with_reducible apply Rd.drew | with_reducible apply Rd.alloc)) HO.out.cards).mono ?_
  rintro e w1 ⟨u, rfl, hu, b⟩
  obtain ⟨pu, cu, rfl, hcu, ru, _⟩ := hu.form
  have Sw1 := Lib.hid b.size
  have HB := Lib.hid (chain0 (w := w) (by repeat (first | with_reducible exact Below.refl _ _ | with_reducible exact HB.out | with_reducible apply Below.drew | with_reducible apply bdN | with_reducible refine Below.alloc ?_ (by first | exact Nat.le_refl _ | (simp; done) | (simp; omega) | (have := HB.out.size; simp at *; omega)) _ | with_reducible refine Below.setCell ?_ (by first | exact Nat.le_refl _ | (simp; done) | (simp; omega) | (have := HB.out.size; simp at *; omega)) _)) b)
  have HR := Lib.hid (Rd.below (by repeat (first | with_reducible exact HR.out | with_reducible apply Rd.drewN | with_reducible apply Rd.drew | with_reducible apply Rd.alloc)) b)
  have K1 : Hid (DBox _ (w.heap.size) (⟨31, s, a, .slice p n cp⟩)) := Lib.hid (DBox.below (by repeat (first | with_reducible exact K1.out | with_reducible apply DBox.drewN | with_reducible apply DBox.drew | (with_reducible refine DBox.newAt ?_ ?_ <;> first | (simp; done) | rfl) | with_reducible apply DBox.alloc)) b)
  have K2 : Hid (DBox _ (w.heap.size + 1) (⟨31, 0, 0, .slice none 0 0⟩)) := Lib.hid (DBox.below (by repeat (first | with_reducible exact K2.out | with_reducible apply DBox.drewN | with_reducible apply DBox.drew | (with_reducible refine DBox.newAt ?_ ?_ <;> first | (simp; done) | rfl) | with_reducible apply DBox.alloc)) b)
  try clear k1a k1b k1c k1d k1z
  have k1z := K1.out.lt
  obtain ⟨k1a, k1b, k1c, k1d⟩ := K1.out.cell
  try clear k2a k2b k2c k2d k2z
  have k2z := K2.out.lt
  obtain ⟨k2a, k2b, k2c, k2d⟩ := K2.out.cell
  try clear k2f
  have k2f := K2.out.frozen
  clear b
  have RL := Lib.hid ru
  have HSp := Lib.hid hu.span
  clear hu ru
  cases hls : lines l with
  | nil =>
    have HT := Lib.hid (step_nil (d := ⟨s, a, l⟩) hls)
    clear RL
    try rw [hls] at hcu
    have hz : (([] : List A3).length) = 0 := rfl
    rw [hz] at hcu ⊢
    clear hls hz
    go_wp2_with fail
    refine (impl_lay s a 3 l p n cp _ HO.out.1 ha81 ⟨by omega, by omega⟩ HN.out (by omega) (by repeat (first | with_reducible exact HR.out | with_reducible apply Rd.drewN | with_reducible apply Rd.drew | with_reducible apply Rd.alloc)) H0.out).mono ?_
    rintro e w4 ⟨u, rfl, hu, b⟩
    have HZ := Lib.hid (show w.heap.size + 1 + 1 ≤ _ from K2.out.lt)
    have Sw4 := Lib.hid b.size
    have HB := Lib.hid (chain0 (w := w) (by repeat (first | with_reducible exact Below.refl _ _ | with_reducible exact HB.out | with_reducible apply Below.drew | with_reducible apply bdN | with_reducible refine Below.alloc ?_ (by first | exact Nat.le_refl _ | (simp; done) | (simp; omega) | (have := HB.out.size; simp at *; omega)) _ | with_reducible refine Below.setCell ?_ (by first | exact Nat.le_refl _ | (simp; done) | (simp; omega) | (have := HB.out.size; simp at *; omega)) _)) b)
    have HR := Lib.hid (Rd.below (by repeat (first | with_reducible exact HR.out | with_reducible apply Rd.drewN | with_reducible apply Rd.drew | with_reducible apply Rd.alloc)) b)
    have K1 : Hid (DBox _ (w.heap.size) (⟨31, s, a, .slice p n cp⟩)) := Lib.hid (DBox.below (by repeat (first | with_reducible exact K1.out | with_reducible apply DBox.drewN | with_reducible apply DBox.drew | (with_reducible refine DBox.newAt ?_ ?_ <;> first | (simp; done) | rfl) | with_reducible apply DBox.alloc)) b)
    have K2 : Hid (DBox _ (w.heap.size + 1) (⟨31, 0, 0, .slice none 0 0⟩)) := Lib.hid (DBox.below (by repeat (first | with_reducible exact K2.out | with_reducible apply DBox.drewN | with_reducible apply DBox.drew | (with_reducible refine DBox.newAt ?_ ?_ <;> first | (simp; done) | rfl) | with_reducible apply DBox.alloc)) b)
    try clear k1a k1b k1c k1d k1z
    have k1z := K1.out.lt
    obtain ⟨k1a, k1b, k1c, k1d⟩ := K1.out.cell
    try clear k2a k2b k2c k2d k2z
    have k2z := K2.out.lt
    obtain ⟨k2a, k2b, k2c, k2d⟩ := K2.out.cell
    try clear k2f
    have k2f := K2.out.frozen
    clear b
    have HU := Lib.hid (hu.base HZ.out)
    obtain ⟨pv, cv, rfl, _, _, _⟩ := HU.out.form
    clear hu
    have k2f := K2.out.frozen
    go_wp2_with fail
    try simp only [Exit.inBlock, Exit.then]
    refine bodyPost_ret (res_deal Try.results84 rfl (K2.out.set_ _ _ _)) rfl ?_
    exact ⟨_, by rw [HT.out], by rw [HT.out]; exact (Own.far (Own.far (Own.far HU.out (Nat.lt_succ_self _) _) (Nat.lt_succ_self _) _) (Nat.lt_succ_self _) _).base (show w.heap.size ≤ w.heap.size + 1 + 1 by omega), by repeat (first | with_reducible exact Below.refl _ _ | with_reducible exact HB.out | with_reducible apply Below.drew | with_reducible apply bdN | with_reducible refine Below.alloc ?_ (by first | exact Nat.le_refl _ | (simp; done) | (simp; omega) | (have := HB.out.size; simp at *; omega)) _ | with_reducible refine Below.setCell ?_ (by first | exact Nat.le_refl _ | (simp; done) | (simp; omega) | (have := HB.out.size; simp at *; omega)) _)⟩
  | cons t r =>
    have HT := Lib.hid (step_cons (d := ⟨s, a, l⟩) hls)
    obtain ⟨m, hm⟩ : ∃ m, (lines l).length = m + 1 := ⟨r.length, by rw [hls]; rfl⟩
    have hm7 : m ≤ 6561 := by
      have h1 := lines_len l
      have h2 : l.length * l.length ≤ 81 * 81 := Nat.mul_le_mul (by rw [HN.out]; exact hl) (by rw [HN.out]; exact hl)
      omega
    obtain ⟨bk, ob, t2, hpu, hbk, ht2, c0, c1, c2⟩ := RL.out.aA3 (k := 0) (by rw [hm]; omega)
    obtain rfl : t = t2 := by rw [hls] at ht2; simpa using ht2
    subst hpu
    have hbk : w.heap.size + 1 < bk := by have h := (HSp.out bk rfl).1; simp at h; omega
    have hbn := Nat.ne_of_gt hbk
    have hbn2 := Nat.ne_of_lt hbk
    have hm2 : (t :: r).length = m + 1 := by rw [← hls]; exact hm
    first | rw [hm2] at hcu | rw [hm] at hcu
    rw [hm2]
    clear hm2
    have e0 : w1.cell? ⟨bk, ob, none⟩ = some (.int .i64 t.a) := by simpa using c0
    have e1 : w1.cell? ⟨bk, ob + 1, none⟩ = some (.int .i64 t.b) := by simpa using c1
    have e2 : w1.cell? ⟨bk, ob + 2, none⟩ = some (.int .i64 t.c) := by simpa using c2
    obtain ⟨m1, hm1⟩ : ∃ m1, m + 1 = m1 := ⟨_, rfl⟩
    have hmp : (0 : Int) < (m1 : Int) := by omega
    have hmp0 : 0 < m1 := by omega
    have hmz : ((m1 : Int) == 0) = false := by simp; omega
    rw [hm1] at hcu ⊢
    have RL : Hid (Rd w1 (some ⟨bk, ob, none⟩) (A3.flat (t :: r))) := by first | exact RL | (rw [hls] at RL; exact RL)
    clear hls hm hm1 ht2 c0 c1 c2
    have HTk := Lib.hid (fun (w' : World) (hr' : Rd w' p (flat l)) => impl_take s a l t p n cp w' HO.out.1 ha81 HN.out hl hr')
    go_upto_region 4 with fail
    go_region_held3 (fun w' => w'.cell? ⟨w.heap.size, 0, none⟩ = some (.int .i64 s) ∧ w'.cell? ⟨w.heap.size, 1, none⟩ = some (.int .i64 (a : Int)) ∧ w'.cell? ⟨w.heap.size, 2, none⟩ = some (.slice p n cp) ∧ w'.cell? ⟨bk, ob, none⟩ = some (.int .i64 t.a) ∧ w'.cell? ⟨bk, ob + 1, none⟩ = some (.int .i64 t.b) ∧ w'.cell? ⟨bk, ob + 2, none⟩ = some (.int .i64 t.c)) (first | exact ⟨k1a, k1b, k1c, e0, e1, e2⟩ | go_keep) (first
      | (go_at_call 82; refine (HTk.out _ (by repeat (first | with_reducible exact HR.out | with_reducible apply Rd.drewN | with_reducible apply Rd.drew | with_reducible apply Rd.alloc))).mono ?_; rintro e w4 ⟨u, rfl, hu, b⟩; have HZ := Lib.hid (show w.heap.size + 1 + 1 ≤ _ from k2z); have HB := Lib.hid (chain0 (w := w) (by repeat (first | with_reducible exact Below.refl _ _ | with_reducible exact HB.out | with_reducible apply Below.drew | with_reducible apply bdN | with_reducible refine Below.alloc ?_ (by first | exact Nat.le_refl _ | (simp; done) | (simp; omega) | (have := HB.out.size; simp at *; omega)) _ | with_reducible refine Below.setCell ?_ (by first | exact Nat.le_refl _ | (simp; done) | (simp; omega) | (have := HB.out.size; simp at *; omega)) _)) b); have HR := Lib.hid (Rd.below (by repeat (first | with_reducible exact HR.out | with_reducible apply Rd.drewN | with_reducible apply Rd.drew | with_reducible apply Rd.alloc)) b); have RL := Lib.hid (Rd.below (by repeat (first | with_reducible exact RL.out | with_reducible apply Rd.drewN | with_reducible apply Rd.drew | with_reducible apply Rd.alloc)) b); have K1 : Hid (DBox _ (w.heap.size) (⟨31, s, a, .slice p n cp⟩)) := Lib.hid (DBox.below (by repeat (first | with_reducible exact K1.out | with_reducible apply DBox.drewN | with_reducible apply DBox.drew | (with_reducible refine DBox.newAt ?_ ?_ <;> first | (simp; done) | rfl) | with_reducible apply DBox.alloc)) b); have K2 : Hid (DBox _ (w.heap.size + 1) (⟨31, 0, 0, .slice none 0 0⟩)) := Lib.hid (DBox.below (by repeat (first | with_reducible exact K2.out | with_reducible apply DBox.drewN | with_reducible apply DBox.drew | (with_reducible refine DBox.newAt ?_ ?_ <;> first | (simp; done) | rfl) | with_reducible apply DBox.alloc)) b); obtain ⟨k1a, k1b, k1c, k1d⟩ := K1.out.cell; have k1z := K1.out.lt; obtain ⟨k2a, k2b, k2c, k2d⟩ := K2.out.cell; have k2z := K2.out.lt; have k2f := K2.out.frozen; have HU := Lib.hid (hu.base HZ.out); obtain ⟨pv, cv, rfl, _, _, _⟩ := HU.out.form; clear hu b; clear e0 e1 e2; obtain ⟨e0, e1, e2⟩ := Rd.head3 RL.out))
    all_goals
      go_wp2_with fail
      try simp only [Exit.inBlock, Exit.then]
      refine bodyPost_ret (res_deal Try.results84 rfl (K2.out.set_ _ _ _)) rfl ?_
      exact ⟨_, by rw [HT.out], by rw [HT.out]; exact (Own.far (Own.far (Own.far HU.out (Nat.lt_succ_self _) _) (Nat.lt_succ_self _) _) (Nat.lt_succ_self _) _).base (show w.heap.size ≤ w.heap.size + 1 + 1 by omega), by repeat (first | with_reducible exact Below.refl _ _ | with_reducible exact HB.out | with_reducible apply Below.drew | with_reducible apply bdN | with_reducible refine Below.alloc ?_ (by first | exact Nat.le_refl _ | (simp; done) | (simp; omega) | (have := HB.out.size; simp at *; omega)) _ | with_reducible refine Below.setCell ?_ (by first | exact Nat.le_refl _ | (simp; done) | (simp; omega) | (have := HB.out.size; simp at *; omega)) _)⟩

set_option maxRecDepth 100000 in
set_option maxHeartbeats 4000000 in
theorem l4_step (s : Int) (a : Nat) (l : List Cd) (p : Option Addr) (n cp : Nat) (w : World) (ho : (Dl.mk s a l).okP) (hn : l.length = n) (hl : n ≤ 81) (hr : Rd w p (flat l)) (h0 : p = none → cp = 0) :
    Calls Try.prog 83 #[dval s a (.slice p n cp)] w fun e w' => ∃ u, e = .returned (dval s (stepD ⟨s, a, l⟩).nx u) ∧ Own w' w.heap.size u (stepD ⟨s, a, l⟩).l ∧ Below w.heap.size w w' := by
  have HO := Lib.hid ho
  have HN := Lib.hid hn
  have HR := Lib.hid hr
  have H0 := Lib.hid h0
  have ha81 : a ≤ 81 := by have h1 : (a : Int) ≤ 81 := ho.2.1.2; omega
  clear ho hn hr h0
  go_enter Try.func83, Try.ntmps83
  go_wp2_with fail
  refine (l4_lines l p n cp _ HN.out hl (by repeat (first | with_reducible exact HR.out | with_reducible apply Rd.drewN | with_reducible apply Rd.drew | with_reducible apply Rd.alloc)) HO.out.cards HO.out.2.2.2).mono ?_
  rintro e w1 ⟨u, rfl, hu, b⟩
  obtain ⟨pu, cu, rfl, hcu, ru, _⟩ := hu.form
  have Sw1 := Lib.hid b.size
  have HB := Lib.hid (chain0 (w := w) (by repeat (first | with_reducible exact Below.refl _ _ | with_reducible exact HB.out | with_reducible apply Below.drew | with_reducible apply bdN | with_reducible refine Below.alloc ?_ (by first | exact Nat.le_refl _ | (simp; done) | (simp; omega) | (have := HB.out.size; simp at *; omega)) _ | with_reducible refine Below.setCell ?_ (by first | exact Nat.le_refl _ | (simp; done) | (simp; omega) | (have := HB.out.size; simp at *; omega)) _)) b)
  have HR := Lib.hid (Rd.below (by repeat (first | with_reducible exact HR.out | with_reducible apply Rd.drewN | with_reducible apply Rd.drew | with_reducible apply Rd.alloc)) b)
  have K1 : Hid (DBox _ (w.heap.size) (⟨31, s, a, .slice p n cp⟩)) := Lib.hid (DBox.below (by repeat (first | with_reducible exact K1.out | with_reducible apply DBox.drewN | with_reducible apply DBox.drew | (with_reducible refine DBox.newAt ?_ ?_ <;> first | (simp; done) | rfl) | with_reducible apply DBox.alloc)) b)
  have K2 : Hid (DBox _ (w.heap.size + 1) (⟨31, 0, 0, .slice none 0 0⟩)) := Lib.hid (DBox.below (by repeat (first | with_reducible exact K2.out | with_reducible apply DBox.drewN | with_reducible apply DBox.drew | (with_reducible refine DBox.newAt ?_ ?_ <;> first | (simp; done) | rfl) | with_reducible apply DBox.alloc)) b)
  try clear k1a k1b k1c k1d k1z
  have k1z := K1.out.lt
  obtain ⟨k1a, k1b, k1c, k1d⟩ := K1.out.cell
  try clear k2a k2b k2c k2d k2z
  have k2z := K2.out.lt
  obtain ⟨k2a, k2b, k2c, k2d⟩ := K2.out.cell
  try clear k2f
  have k2f := K2.out.frozen
  clear b
  have RL := Lib.hid ru
  have HSp := Lib.hid hu.span
  clear hu ru
  cases hls : lines l with
  | nil =>
    have HT := Lib.hid (step_nil (d := ⟨s, a, l⟩) hls)
    clear RL
    try rw [hls] at hcu
    have hz : (([] : List A3).length) = 0 := rfl
    rw [hz] at hcu ⊢
    clear hls hz
    go_wp2_with fail
    refine (l4_lay s a 3 l p n cp _ HO.out.1 ha81 ⟨by omega, by omega⟩ HN.out (by omega) (by repeat (first | with_reducible exact HR.out | with_reducible apply Rd.drewN | with_reducible apply Rd.drew | with_reducible apply Rd.alloc)) H0.out).mono ?_
    rintro e w4 ⟨u, rfl, hu, b⟩
    have HZ := Lib.hid (show w.heap.size + 1 + 1 ≤ _ from K2.out.lt)
    have Sw4 := Lib.hid b.size
    have HB := Lib.hid (chain0 (w := w) (by repeat (first | with_reducible exact Below.refl _ _ | with_reducible exact HB.out | with_reducible apply Below.drew | with_reducible apply bdN | with_reducible refine Below.alloc ?_ (by first | exact Nat.le_refl _ | (simp; done) | (simp; omega) | (have := HB.out.size; simp at *; omega)) _ | with_reducible refine Below.setCell ?_ (by first | exact Nat.le_refl _ | (simp; done) | (simp; omega) | (have := HB.out.size; simp at *; omega)) _)) b)
    have HR := Lib.hid (Rd.below (by repeat (first | with_reducible exact HR.out | with_reducible apply Rd.drewN | with_reducible apply Rd.drew | with_reducible apply Rd.alloc)) b)
    have K1 : Hid (DBox _ (w.heap.size) (⟨31, s, a, .slice p n cp⟩)) := Lib.hid (DBox.below (by repeat (first | with_reducible exact K1.out | with_reducible apply DBox.drewN | with_reducible apply DBox.drew | (with_reducible refine DBox.newAt ?_ ?_ <;> first | (simp; done) | rfl) | with_reducible apply DBox.alloc)) b)
    have K2 : Hid (DBox _ (w.heap.size + 1) (⟨31, 0, 0, .slice none 0 0⟩)) := Lib.hid (DBox.below (by repeat (first | with_reducible exact K2.out | with_reducible apply DBox.drewN | with_reducible apply DBox.drew | (with_reducible refine DBox.newAt ?_ ?_ <;> first | (simp; done) | rfl) | with_reducible apply DBox.alloc)) b)
    try clear k1a k1b k1c k1d k1z
    have k1z := K1.out.lt
    obtain ⟨k1a, k1b, k1c, k1d⟩ := K1.out.cell
    try clear k2a k2b k2c k2d k2z
    have k2z := K2.out.lt
    obtain ⟨k2a, k2b, k2c, k2d⟩ := K2.out.cell
    try clear k2f
    have k2f := K2.out.frozen
    clear b
    have HU := Lib.hid (hu.base HZ.out)
    obtain ⟨pv, cv, rfl, _, _, _⟩ := HU.out.form
    clear hu
    have k2f := K2.out.frozen
    go_wp2_with fail
    try simp only [Exit.inBlock, Exit.then]
    refine bodyPost_ret (res_deal Try.results83 rfl (K2.out.set_ _ _ _)) rfl ?_
    exact ⟨_, by rw [HT.out], by rw [HT.out]; exact (Own.far (Own.far (Own.far HU.out (Nat.lt_succ_self _) _) (Nat.lt_succ_self _) _) (Nat.lt_succ_self _) _).base (show w.heap.size ≤ w.heap.size + 1 + 1 by omega), by repeat (first | with_reducible exact Below.refl _ _ | with_reducible exact HB.out | with_reducible apply Below.drew | with_reducible apply bdN | with_reducible refine Below.alloc ?_ (by first | exact Nat.le_refl _ | (simp; done) | (simp; omega) | (have := HB.out.size; simp at *; omega)) _ | with_reducible refine Below.setCell ?_ (by first | exact Nat.le_refl _ | (simp; done) | (simp; omega) | (have := HB.out.size; simp at *; omega)) _)⟩
  | cons t r =>
    have HT := Lib.hid (step_cons (d := ⟨s, a, l⟩) hls)
    obtain ⟨m, hm⟩ : ∃ m, (lines l).length = m + 1 := ⟨r.length, by rw [hls]; rfl⟩
    have hm7 : m ≤ 6561 := by
      have h1 := lines_len l
      have h2 : l.length * l.length ≤ 81 * 81 := Nat.mul_le_mul (by rw [HN.out]; exact hl) (by rw [HN.out]; exact hl)
      omega
    obtain ⟨bk, ob, t2, hpu, hbk, ht2, c0, c1, c2⟩ := RL.out.aA3 (k := 0) (by rw [hm]; omega)
    obtain rfl : t = t2 := by rw [hls] at ht2; simpa using ht2
    subst hpu
    have hbk : w.heap.size + 1 < bk := by have h := (HSp.out bk rfl).1; simp at h; omega
    have hbn := Nat.ne_of_gt hbk
    have hbn2 := Nat.ne_of_lt hbk
    have hm2 : (t :: r).length = m + 1 := by rw [← hls]; exact hm
    first | rw [hm2] at hcu | rw [hm] at hcu
    rw [hm2]
    clear hm2
    have e0 : w1.cell? ⟨bk, ob, none⟩ = some (.int .i64 t.a) := by simpa using c0
    have e1 : w1.cell? ⟨bk, ob + 1, none⟩ = some (.int .i64 t.b) := by simpa using c1
    have e2 : w1.cell? ⟨bk, ob + 2, none⟩ = some (.int .i64 t.c) := by simpa using c2
    obtain ⟨m1, hm1⟩ : ∃ m1, m + 1 = m1 := ⟨_, rfl⟩
    have hmp : (0 : Int) < (m1 : Int) := by omega
    have hmp0 : 0 < m1 := by omega
    have hmz : ((m1 : Int) == 0) = false := by simp; omega
    rw [hm1] at hcu ⊢
    have RL : Hid (Rd w1 (some ⟨bk, ob, none⟩) (A3.flat (t :: r))) := by first | exact RL | (rw [hls] at RL; exact RL)
    clear hls hm hm1 ht2 c0 c1 c2
    have HTk := Lib.hid (fun (w' : World) (hr' : Rd w' p (flat l)) => l4_take s a l t p n cp w' HO.out.1 ha81 HN.out hl hr')
    go_upto_region 4 with fail
    go_region_held3 (fun w' => w'.cell? ⟨w.heap.size, 0, none⟩ = some (.int .i64 s) ∧ w'.cell? ⟨w.heap.size, 1, none⟩ = some (.int .i64 (a : Int)) ∧ w'.cell? ⟨w.heap.size, 2, none⟩ = some (.slice p n cp) ∧ w'.cell? ⟨bk, ob, none⟩ = some (.int .i64 t.a) ∧ w'.cell? ⟨bk, ob + 1, none⟩ = some (.int .i64 t.b) ∧ w'.cell? ⟨bk, ob + 2, none⟩ = some (.int .i64 t.c)) (first | exact ⟨k1a, k1b, k1c, e0, e1, e2⟩ | go_keep) (first
      | (go_at_call 80; refine (HTk.out _ (by repeat (first | with_reducible exact HR.out | with_reducible apply Rd.drewN | with_reducible apply Rd.drew | with_reducible apply Rd.alloc))).mono ?_; rintro e w4 ⟨u, rfl, hu, b⟩; have HZ := Lib.hid (show w.heap.size + 1 + 1 ≤ _ from k2z); have HB := Lib.hid (chain0 (w := w) (by repeat (first | with_reducible exact Below.refl _ _ | with_reducible exact HB.out | with_reducible apply Below.drew | with_reducible apply bdN | with_reducible refine Below.alloc ?_ (by first | exact Nat.le_refl _ | (simp; done) | (simp; omega) | (have := HB.out.size; simp at *; omega)) _ | with_reducible refine Below.setCell ?_ (by first | exact Nat.le_refl _ | (simp; done) | (simp; omega) | (have := HB.out.size; simp at *; omega)) _)) b); have HR := Lib.hid (Rd.below (by repeat (first | with_reducible exact HR.out | with_reducible apply Rd.drewN | with_reducible apply Rd.drew | with_reducible apply Rd.alloc)) b); have RL := Lib.hid (Rd.below (by repeat (first | with_reducible exact RL.out | with_reducible apply Rd.drewN | with_reducible apply Rd.drew | with_reducible apply Rd.alloc)) b); have K1 : Hid (DBox _ (w.heap.size) (⟨31, s, a, .slice p n cp⟩)) := Lib.hid (DBox.below (by repeat (first | with_reducible exact K1.out | with_reducible apply DBox.drewN | with_reducible apply DBox.drew | (with_reducible refine DBox.newAt ?_ ?_ <;> first | (simp; done) | rfl) | with_reducible apply DBox.alloc)) b); have K2 : Hid (DBox _ (w.heap.size + 1) (⟨31, 0, 0, .slice none 0 0⟩)) := Lib.hid (DBox.below (by repeat (first | with_reducible exact K2.out | with_reducible apply DBox.drewN | with_reducible apply DBox.drew | (with_reducible refine DBox.newAt ?_ ?_ <;> first | (simp; done) | rfl) | with_reducible apply DBox.alloc)) b); obtain ⟨k1a, k1b, k1c, k1d⟩ := K1.out.cell; have k1z := K1.out.lt; obtain ⟨k2a, k2b, k2c, k2d⟩ := K2.out.cell; have k2z := K2.out.lt; have k2f := K2.out.frozen; have HU := Lib.hid (hu.base HZ.out); obtain ⟨pv, cv, rfl, _, _, _⟩ := HU.out.form; clear hu b; clear e0 e1 e2; obtain ⟨e0, e1, e2⟩ := Rd.head3 RL.out))
    all_goals
      go_wp2_with fail
      try simp only [Exit.inBlock, Exit.then]
      refine bodyPost_ret (res_deal Try.results83 rfl (K2.out.set_ _ _ _)) rfl ?_
      exact ⟨_, by rw [HT.out], by rw [HT.out]; exact (Own.far (Own.far (Own.far HU.out (Nat.lt_succ_self _) _) (Nat.lt_succ_self _) _) (Nat.lt_succ_self _) _).base (show w.heap.size ≤ w.heap.size + 1 + 1 by omega), by repeat (first | with_reducible exact Below.refl _ _ | with_reducible exact HB.out | with_reducible apply Below.drew | with_reducible apply bdN | with_reducible refine Below.alloc ?_ (by first | exact Nat.le_refl _ | (simp; done) | (simp; omega) | (have := HB.out.size; simp at *; omega)) _ | with_reducible refine Below.setCell ?_ (by first | exact Nat.le_refl _ | (simp; done) | (simp; omega) | (have := HB.out.size; simp at *; omega)) _)⟩

set_option maxRecDepth 100000 in
set_option maxHeartbeats 2000000 in
theorem impl_ds (s nx : Int) (l : List Cd) (p : Option Addr) (n cp B : Nat) (w : World) (hn : l.length = n) (hl : n ≤ 1000000000) (ho : Own w B (.slice p n cp) l) (hw : ∀ x ∈ l, wfc x) :
    Calls Try.prog 47 #[dval s nx (.slice p n cp)] w fun e w' => ∃ u, e = .returned (.tuple #[dval (dsR ⟨s, nx, l⟩).1.s (dsR ⟨s, nx, l⟩).1.nx u, .bool (dsR ⟨s, nx, l⟩).2]) ∧ Own w' w.heap.size u (dsR ⟨s, nx, l⟩).1.l ∧ Below w.heap.size w w' := by
  have HN := Lib.hid hn
  have hr := ho.rd
  have hcp : n ≤ cp := by obtain ⟨p', c', e, h, _⟩ := ho.form; injection e with e1 e2 e3; omega
  have HR := Lib.hid hr
  have HW := Lib.hid hw
  have H0 := Lib.hid (Own.nil0 ho)
  clear hn hr hw ho
  go_enter Try.func47, Try.ntmps47
  go_wp2_with fail
  refine ((impl_isdeal s nx l p n cp _ HN.out hl hcp (by repeat (first | with_reducible exact HR.out | with_reducible apply Rd.drewN | with_reducible apply Rd.drew | with_reducible apply Rd.alloc)) HW.out)).mono ?_
  rintro e w1 ⟨rfl, b⟩
  have Sw1 := Lib.hid b.size
  have HB := Lib.hid (chain0 (w := w) (by repeat (first | with_reducible exact Below.refl _ _ | with_reducible exact HB.out | with_reducible apply Below.drew | with_reducible apply bdN | with_reducible refine Below.alloc ?_ (by first | exact Nat.le_refl _ | (simp; done) | (simp; omega) | (have := HB.out.size; simp at *; omega)) _ | with_reducible refine Below.setCell ?_ (by first | exact Nat.le_refl _ | (simp; done) | (simp; omega) | (have := HB.out.size; simp at *; omega)) _)) b)
  have HR := Lib.hid (Rd.below (by repeat (first | with_reducible exact HR.out | with_reducible apply Rd.drewN | with_reducible apply Rd.drew | with_reducible apply Rd.alloc)) b)
  have K1 : Hid (DBox _ (w.heap.size) (⟨31, s, nx, .slice p n cp⟩)) := Lib.hid (DBox.below (by repeat (first | with_reducible exact K1.out | with_reducible apply DBox.drewN | with_reducible apply DBox.drew | (with_reducible refine DBox.newAt ?_ ?_ <;> first | (simp; done) | rfl) | with_reducible apply DBox.alloc)) b)
  have K2 : Hid (DBox _ (w.heap.size + 1) (⟨31, 0, 0, .slice none 0 0⟩)) := Lib.hid (DBox.below (by repeat (first | with_reducible exact K2.out | with_reducible apply DBox.drewN | with_reducible apply DBox.drew | (with_reducible refine DBox.newAt ?_ ?_ <;> first | (simp; done) | rfl) | with_reducible apply DBox.alloc)) b)
  try clear k1a k1b k1c k1d k1z
  have k1z := K1.out.lt
  obtain ⟨k1a, k1b, k1c, k1d⟩ := K1.out.cell
  try clear k2a k2b k2c k2d k2z
  have k2z := K2.out.lt
  obtain ⟨k2a, k2b, k2c, k2d⟩ := K2.out.cell
  try clear k2f
  have k2f := K2.out.frozen
  clear b
  cases hok : (Dl.mk s nx l).ok
  · have HT := Lib.hid (show dsR ⟨s, nx, l⟩ = (⟨0, 0, []⟩, false) by unfold dsR; rw [if_neg (by simp [hok])])
    go_wp2_with fail
    try simp only [Exit.inBlock, Exit.then]
    refine bodyPost_ret (res_deal2 Try.results47 rfl (K2.out.set_ _ _ _)) rfl ?_
    exact ⟨.slice none 0 0, by rw [HT.out]; rfl, by rw [HT.out]; exact Own.none_ _ _, by repeat (first | with_reducible exact Below.refl _ _ | with_reducible exact HB.out | with_reducible apply Below.drew | with_reducible apply bdN | with_reducible refine Below.alloc ?_ (by first | exact Nat.le_refl _ | (simp; done) | (simp; omega) | (have := HB.out.size; simp at *; omega)) _ | with_reducible refine Below.setCell ?_ (by first | exact Nat.le_refl _ | (simp; done) | (simp; omega) | (have := HB.out.size; simp at *; omega)) _)⟩
  · have HOk := Lib.hid hok
    have HO := Lib.hid (Dl.ok_iff.1 hok)
    have HK := Lib.hid HO.out.cards
    have hl81 : n ≤ 81 := by have h1 := HO.out.len81; have h2 := HN.out; have h3 : l.length ≤ 81 := h1; omega
    clear hok
    go_wp2_with fail
    refine ((is_over s nx l p n cp _ HN.out hl81 (by repeat (first | with_reducible exact HR.out | with_reducible apply Rd.drewN | with_reducible apply Rd.drew | with_reducible apply Rd.alloc)) HK.out)).mono ?_
    rintro e w2 ⟨rfl, b⟩
    have Sw2 := Lib.hid b.size
    have HB := Lib.hid (chain0 (w := w) (by repeat (first | with_reducible exact Below.refl _ _ | with_reducible exact HB.out | with_reducible apply Below.drew | with_reducible apply bdN | with_reducible refine Below.alloc ?_ (by first | exact Nat.le_refl _ | (simp; done) | (simp; omega) | (have := HB.out.size; simp at *; omega)) _ | with_reducible refine Below.setCell ?_ (by first | exact Nat.le_refl _ | (simp; done) | (simp; omega) | (have := HB.out.size; simp at *; omega)) _)) b)
    have HR := Lib.hid (Rd.below (by repeat (first | with_reducible exact HR.out | with_reducible apply Rd.drewN | with_reducible apply Rd.drew | with_reducible apply Rd.alloc)) b)
    have K1 : Hid (DBox _ (w.heap.size) (⟨31, s, nx, .slice p n cp⟩)) := Lib.hid (DBox.below (by repeat (first | with_reducible exact K1.out | with_reducible apply DBox.drewN | with_reducible apply DBox.drew | (with_reducible refine DBox.newAt ?_ ?_ <;> first | (simp; done) | rfl) | with_reducible apply DBox.alloc)) b)
    have K2 : Hid (DBox _ (w.heap.size + 1) (⟨31, 0, 0, .slice none 0 0⟩)) := Lib.hid (DBox.below (by repeat (first | with_reducible exact K2.out | with_reducible apply DBox.drewN | with_reducible apply DBox.drew | (with_reducible refine DBox.newAt ?_ ?_ <;> first | (simp; done) | rfl) | with_reducible apply DBox.alloc)) b)
    try clear k1a k1b k1c k1d k1z
    have k1z := K1.out.lt
    obtain ⟨k1a, k1b, k1c, k1d⟩ := K1.out.cell
    try clear k2a k2b k2c k2d k2z
    have k2z := K2.out.lt
    obtain ⟨k2a, k2b, k2c, k2d⟩ := K2.out.cell
    try clear k2f
    have k2f := K2.out.frozen
    clear b
    cases hov : overD ⟨s, nx, l⟩
    · have HT0 := Lib.hid (show dsR ⟨s, nx, l⟩ = (stepD ⟨s, nx, l⟩, true) by unfold dsR; rw [if_pos ⟨HOk.out, hov⟩])
      have HSs := Lib.hid (show (stepD ⟨s, nx, l⟩).s = s from (step_facts HO.out hov).2.2)
      clear hov
      have hnx := HO.out.2.1
      obtain ⟨a, ha⟩ : ∃ a : Nat, nx = (a : Int) := ⟨nx.toNat, by have h1 : 0 ≤ nx := hnx.1; omega⟩
      subst ha
      have HT := Lib.hid HT0.out
      go_wp2_with fail
      refine (step_of s a l p n cp _ HO.out HN.out hl81 (by repeat (first | with_reducible exact HR.out | with_reducible apply Rd.drewN | with_reducible apply Rd.drew | with_reducible apply Rd.alloc)) H0.out).mono ?_
      rintro e w4 ⟨u, rfl, hu, b⟩
      have HZ := Lib.hid (show w.heap.size + 1 + 1 ≤ _ from K2.out.lt)
      have Sw4 := Lib.hid b.size
      have HB := Lib.hid (chain0 (w := w) (by repeat (first | with_reducible exact Below.refl _ _ | with_reducible exact HB.out | with_reducible apply Below.drew | with_reducible apply bdN | with_reducible refine Below.alloc ?_ (by first | exact Nat.le_refl _ | (simp; done) | (simp; omega) | (have := HB.out.size; simp at *; omega)) _ | with_reducible refine Below.setCell ?_ (by first | exact Nat.le_refl _ | (simp; done) | (simp; omega) | (have := HB.out.size; simp at *; omega)) _)) b)
      have HR := Lib.hid (Rd.below (by repeat (first | with_reducible exact HR.out | with_reducible apply Rd.drewN | with_reducible apply Rd.drew | with_reducible apply Rd.alloc)) b)
      have K2 : Hid (DBox _ (w.heap.size + 1) (⟨31, 0, 0, .slice none 0 0⟩)) := Lib.hid (DBox.below (by repeat (first | with_reducible exact K2.out | with_reducible apply DBox.drewN | with_reducible apply DBox.drew | (with_reducible refine DBox.newAt ?_ ?_ <;> first | (simp; done) | rfl) | with_reducible apply DBox.alloc)) b)
      have K1 : Hid (DBox _ (w.heap.size) (⟨31, s, a, .slice p n cp⟩)) := Lib.hid (DBox.below (by repeat (first | with_reducible exact K1.out | with_reducible apply DBox.drewN | with_reducible apply DBox.drew | (with_reducible refine DBox.newAt ?_ ?_ <;> first | (simp; done) | rfl) | with_reducible apply DBox.alloc)) b)
      try clear k2a k2b k2c k2d k2z
      have k2z := K2.out.lt
      obtain ⟨k2a, k2b, k2c, k2d⟩ := K2.out.cell
      try clear k2f
      have k2f := K2.out.frozen
      try clear k1a k1b k1c k1d k1z
      have k1z := K1.out.lt
      obtain ⟨k1a, k1b, k1c, k1d⟩ := K1.out.cell
      clear b
      have HU := Lib.hid (hu.base HZ.out)
      obtain ⟨pv, cv, rfl, _, _, _⟩ := HU.out.form
      clear hu
      have k2f := K2.out.frozen
      go_wp2_with fail
      try simp only [Exit.inBlock, Exit.then]
      refine bodyPost_ret (res_deal2 Try.results47 rfl (K2.out.set_ _ _ _)) rfl ?_
      exact ⟨_, by rw [HT.out]; show _ = Ending.returned (.tuple #[dval (stepD ⟨s, (a : Int), l⟩).s _ _, _]); rw [HSs.out]; rfl, by rw [HT.out]; exact (Own.far (Own.far (Own.far HU.out (Nat.lt_succ_self _) _) (Nat.lt_succ_self _) _) (Nat.lt_succ_self _) _).base (show w.heap.size ≤ w.heap.size + 1 + 1 by omega), by repeat (first | with_reducible exact Below.refl _ _ | with_reducible exact HB.out | with_reducible apply Below.drew | with_reducible apply bdN | with_reducible refine Below.alloc ?_ (by first | exact Nat.le_refl _ | (simp; done) | (simp; omega) | (have := HB.out.size; simp at *; omega)) _ | with_reducible refine Below.setCell ?_ (by first | exact Nat.le_refl _ | (simp; done) | (simp; omega) | (have := HB.out.size; simp at *; omega)) _)⟩
    · have HT := Lib.hid (show dsR ⟨s, nx, l⟩ = (⟨0, 0, []⟩, false) by unfold dsR; rw [if_neg (by simp [hov])])
      go_wp2_with fail
      try simp only [Exit.inBlock, Exit.then]
      refine bodyPost_ret (res_deal2 Try.results47 rfl (K2.out.set_ _ _ _)) rfl ?_
      exact ⟨.slice none 0 0, by rw [HT.out]; rfl, by rw [HT.out]; exact Own.none_ _ _, by repeat (first | with_reducible exact Below.refl _ _ | with_reducible exact HB.out | with_reducible apply Below.drew | with_reducible apply bdN | with_reducible refine Below.alloc ?_ (by first | exact Nat.le_refl _ | (simp; done) | (simp; omega) | (have := HB.out.size; simp at *; omega)) _ | with_reducible refine Below.setCell ?_ (by first | exact Nat.le_refl _ | (simp; done) | (simp; omega) | (have := HB.out.size; simp at *; omega)) _)⟩

set_option maxRecDepth 100000 in
set_option maxHeartbeats 2000000 in
theorem spec_ds (s nx : Int) (l : List Cd) (p : Option Addr) (n cp B : Nat) (w : World) (hn : l.length = n) (hl : n ≤ 1000000000) (ho : Own w B (.slice p n cp) l) (hw : ∀ x ∈ l, wfc x) :
    Calls Try.prog 46 #[dval s nx (.slice p n cp)] w fun e w' => ∃ u, e = .returned (.tuple #[dval (dsR ⟨s, nx, l⟩).1.s (dsR ⟨s, nx, l⟩).1.nx u, .bool (dsR ⟨s, nx, l⟩).2]) ∧ Own w' w.heap.size u (dsR ⟨s, nx, l⟩).1.l ∧ Below w.heap.size w w' := by
  have HN := Lib.hid hn
  have hr := ho.rd
  have hcp : n ≤ cp := by obtain ⟨p', c', e, h, _⟩ := ho.form; injection e with e1 e2 e3; omega
  have HR := Lib.hid hr
  have HW := Lib.hid hw
  have H0 := Lib.hid (Own.nil0 ho)
  clear hn hr hw ho
  go_enter Try.func46, Try.ntmps46
  go_wp2_with fail
  refine ((l4_deal s nx l p n cp _ HN.out hl hcp (by repeat (first | with_reducible exact HR.out | with_reducible apply Rd.drewN | with_reducible apply Rd.drew | with_reducible apply Rd.alloc)) HW.out)).mono ?_
  rintro e w1 ⟨rfl, b⟩
  have Sw1 := Lib.hid b.size
  have HB := Lib.hid (chain0 (w := w) (by repeat (first | with_reducible exact Below.refl _ _ | with_reducible exact HB.out | with_reducible apply Below.drew | with_reducible apply bdN | with_reducible refine Below.alloc ?_ (by first | exact Nat.le_refl _ | (simp; done) | (simp; omega) | (have := HB.out.size; simp at *; omega)) _ | with_reducible refine Below.setCell ?_ (by first | exact Nat.le_refl _ | (simp; done) | (simp; omega) | (have := HB.out.size; simp at *; omega)) _)) b)
  have HR := Lib.hid (Rd.below (by repeat (first | with_reducible exact HR.out | with_reducible apply Rd.drewN | with_reducible apply Rd.drew | with_reducible apply Rd.alloc)) b)
  have K1 : Hid (DBox _ (w.heap.size) (⟨31, s, nx, .slice p n cp⟩)) := Lib.hid (DBox.below (by repeat (first | with_reducible exact K1.out | with_reducible apply DBox.drewN | with_reducible apply DBox.drew | (with_reducible refine DBox.newAt ?_ ?_ <;> first | (simp; done) | rfl) | with_reducible apply DBox.alloc)) b)
  have K2 : Hid (DBox _ (w.heap.size + 1) (⟨31, 0, 0, .slice none 0 0⟩)) := Lib.hid (DBox.below (by repeat (first | with_reducible exact K2.out | with_reducible apply DBox.drewN | with_reducible apply DBox.drew | (with_reducible refine DBox.newAt ?_ ?_ <;> first | (simp; done) | rfl) | with_reducible apply DBox.alloc)) b)
  try clear k1a k1b k1c k1d k1z
  have k1z := K1.out.lt
  obtain ⟨k1a, k1b, k1c, k1d⟩ := K1.out.cell
  try clear k2a k2b k2c k2d k2z
  have k2z := K2.out.lt
  obtain ⟨k2a, k2b, k2c, k2d⟩ := K2.out.cell
  try clear k2f
  have k2f := K2.out.frozen
  clear b
  cases hok : (Dl.mk s nx l).ok
  · have HT := Lib.hid (show dsR ⟨s, nx, l⟩ = (⟨0, 0, []⟩, false) by unfold dsR; rw [if_neg (by simp [hok])])
    go_wp2_with fail
    try simp only [Exit.inBlock, Exit.then]
    refine bodyPost_ret (res_deal2 Try.results46 rfl (K2.out.set_ _ _ _)) rfl ?_
    exact ⟨.slice none 0 0, by rw [HT.out]; rfl, by rw [HT.out]; exact Own.none_ _ _, by repeat (first | with_reducible exact Below.refl _ _ | with_reducible exact HB.out | with_reducible apply Below.drew | with_reducible apply bdN | with_reducible refine Below.alloc ?_ (by first | exact Nat.le_refl _ | (simp; done) | (simp; omega) | (have := HB.out.size; simp at *; omega)) _ | with_reducible refine Below.setCell ?_ (by first | exact Nat.le_refl _ | (simp; done) | (simp; omega) | (have := HB.out.size; simp at *; omega)) _)⟩
  · have HOk := Lib.hid hok
    have HO := Lib.hid (Dl.ok_iff.1 hok)
    have HK := Lib.hid HO.out.cards
    have hl81 : n ≤ 81 := by have h1 := HO.out.len81; have h2 := HN.out; have h3 : l.length ≤ 81 := h1; omega
    clear hok
    go_wp2_with fail
    refine ((l4_over s nx l p n cp _ HN.out hl81 (by repeat (first | with_reducible exact HR.out | with_reducible apply Rd.drewN | with_reducible apply Rd.drew | with_reducible apply Rd.alloc)) HK.out HO.out.2.2.2)).mono ?_
    rintro e w2 ⟨rfl, b⟩
    have Sw2 := Lib.hid b.size
    have HB := Lib.hid (chain0 (w := w) (by repeat (first | with_reducible exact Below.refl _ _ | with_reducible exact HB.out | with_reducible apply Below.drew | with_reducible apply bdN | with_reducible refine Below.alloc ?_ (by first | exact Nat.le_refl _ | (simp; done) | (simp; omega) | (have := HB.out.size; simp at *; omega)) _ | with_reducible refine Below.setCell ?_ (by first | exact Nat.le_refl _ | (simp; done) | (simp; omega) | (have := HB.out.size; simp at *; omega)) _)) b)
    have HR := Lib.hid (Rd.below (by repeat (first | with_reducible exact HR.out | with_reducible apply Rd.drewN | with_reducible apply Rd.drew | with_reducible apply Rd.alloc)) b)
    have K1 : Hid (DBox _ (w.heap.size) (⟨31, s, nx, .slice p n cp⟩)) := Lib.hid (DBox.below (by repeat (first | with_reducible exact K1.out | with_reducible apply DBox.drewN | with_reducible apply DBox.drew | (with_reducible refine DBox.newAt ?_ ?_ <;> first | (simp; done) | rfl) | with_reducible apply DBox.alloc)) b)
    have K2 : Hid (DBox _ (w.heap.size + 1) (⟨31, 0, 0, .slice none 0 0⟩)) := Lib.hid (DBox.below (by repeat (first | with_reducible exact K2.out | with_reducible apply DBox.drewN | with_reducible apply DBox.drew | (with_reducible refine DBox.newAt ?_ ?_ <;> first | (simp; done) | rfl) | with_reducible apply DBox.alloc)) b)
    try clear k1a k1b k1c k1d k1z
    have k1z := K1.out.lt
    obtain ⟨k1a, k1b, k1c, k1d⟩ := K1.out.cell
    try clear k2a k2b k2c k2d k2z
    have k2z := K2.out.lt
    obtain ⟨k2a, k2b, k2c, k2d⟩ := K2.out.cell
    try clear k2f
    have k2f := K2.out.frozen
    clear b
    cases hov : overD ⟨s, nx, l⟩
    · have HT0 := Lib.hid (show dsR ⟨s, nx, l⟩ = (stepD ⟨s, nx, l⟩, true) by unfold dsR; rw [if_pos ⟨HOk.out, hov⟩])
      have HSs := Lib.hid (show (stepD ⟨s, nx, l⟩).s = s from (step_facts HO.out hov).2.2)
      clear hov
      have hnx := HO.out.2.1
      obtain ⟨a, ha⟩ : ∃ a : Nat, nx = (a : Int) := ⟨nx.toNat, by have h1 : 0 ≤ nx := hnx.1; omega⟩
      subst ha
      have HT := Lib.hid HT0.out
      go_wp2_with fail
      refine (l4_step s a l p n cp _ HO.out HN.out hl81 (by repeat (first | with_reducible exact HR.out | with_reducible apply Rd.drewN | with_reducible apply Rd.drew | with_reducible apply Rd.alloc)) H0.out).mono ?_
      rintro e w4 ⟨u, rfl, hu, b⟩
      have HZ := Lib.hid (show w.heap.size + 1 + 1 ≤ _ from K2.out.lt)
      have Sw4 := Lib.hid b.size
      have HB := Lib.hid (chain0 (w := w) (by repeat (first | with_reducible exact Below.refl _ _ | with_reducible exact HB.out | with_reducible apply Below.drew | with_reducible apply bdN | with_reducible refine Below.alloc ?_ (by first | exact Nat.le_refl _ | (simp; done) | (simp; omega) | (have := HB.out.size; simp at *; omega)) _ | with_reducible refine Below.setCell ?_ (by first | exact Nat.le_refl _ | (simp; done) | (simp; omega) | (have := HB.out.size; simp at *; omega)) _)) b)
      have HR := Lib.hid (Rd.below (by repeat (first | with_reducible exact HR.out | with_reducible apply Rd.drewN | with_reducible apply Rd.drew | with_reducible apply Rd.alloc)) b)
      have K2 : Hid (DBox _ (w.heap.size + 1) (⟨31, 0, 0, .slice none 0 0⟩)) := Lib.hid (DBox.below (by repeat (first | with_reducible exact K2.out | with_reducible apply DBox.drewN | with_reducible apply DBox.drew | (with_reducible refine DBox.newAt ?_ ?_ <;> first | (simp; done) | rfl) | with_reducible apply DBox.alloc)) b)
      have K1 : Hid (DBox _ (w.heap.size) (⟨31, s, a, .slice p n cp⟩)) := Lib.hid (DBox.below (by repeat (first | with_reducible exact K1.out | with_reducible apply DBox.drewN | with_reducible apply DBox.drew | (with_reducible refine DBox.newAt ?_ ?_ <;> first | (simp; done) | rfl) | with_reducible apply DBox.alloc)) b)
      try clear k2a k2b k2c k2d k2z
      have k2z := K2.out.lt
      obtain ⟨k2a, k2b, k2c, k2d⟩ := K2.out.cell
      try clear k2f
      have k2f := K2.out.frozen
      try clear k1a k1b k1c k1d k1z
      have k1z := K1.out.lt
      obtain ⟨k1a, k1b, k1c, k1d⟩ := K1.out.cell
      clear b
      have HU := Lib.hid (hu.base HZ.out)
      obtain ⟨pv, cv, rfl, _, _, _⟩ := HU.out.form
      clear hu
      have k2f := K2.out.frozen
      go_wp2_with fail
      try simp only [Exit.inBlock, Exit.then]
      refine bodyPost_ret (res_deal2 Try.results46 rfl (K2.out.set_ _ _ _)) rfl ?_
      exact ⟨_, by rw [HT.out]; show _ = Ending.returned (.tuple #[dval (stepD ⟨s, (a : Int), l⟩).s _ _, _]); rw [HSs.out]; rfl, by rw [HT.out]; exact (Own.far (Own.far (Own.far HU.out (Nat.lt_succ_self _) _) (Nat.lt_succ_self _) _) (Nat.lt_succ_self _) _).base (show w.heap.size ≤ w.heap.size + 1 + 1 by omega), by repeat (first | with_reducible exact Below.refl _ _ | with_reducible exact HB.out | with_reducible apply Below.drew | with_reducible apply bdN | with_reducible refine Below.alloc ?_ (by first | exact Nat.le_refl _ | (simp; done) | (simp; omega) | (have := HB.out.size; simp at *; omega)) _ | with_reducible refine Below.setCell ?_ (by first | exact Nat.le_refl _ | (simp; done) | (simp; omega) | (have := HB.out.size; simp at *; omega)) _)⟩
    · have HT := Lib.hid (show dsR ⟨s, nx, l⟩ = (⟨0, 0, []⟩, false) by unfold dsR; rw [if_neg (by simp [hov])])
      go_wp2_with fail
      try simp only [Exit.inBlock, Exit.then]
      refine bodyPost_ret (res_deal2 Try.results46 rfl (K2.out.set_ _ _ _)) rfl ?_
      exact ⟨.slice none 0 0, by rw [HT.out]; rfl, by rw [HT.out]; exact Own.none_ _ _, by repeat (first | with_reducible exact Below.refl _ _ | with_reducible exact HB.out | with_reducible apply Below.drew | with_reducible apply bdN | with_reducible refine Below.alloc ?_ (by first | exact Nat.le_refl _ | (simp; done) | (simp; omega) | (have := HB.out.size; simp at *; omega)) _ | with_reducible refine Below.setCell ?_ (by first | exact Nat.le_refl _ | (simp; done) | (simp; omega) | (have := HB.out.size; simp at *; omega)) _)⟩

end Go.Proofs.Ytghjopgbhodccaa.deal
