/- TakeLine: the program and the model alike. -/
import Derived.Test.YtngfdfgeoieebabUc
namespace Go.Proofs.Ytngfdfgeoieebab.deal
open Go.RowKit
open cards
set_option linter.unusedVariables false

noncomputable def tlR (d : Dl) (t : A3) : Dl × Bool := if d.ok = true ∧ has3 (lines d.l) t = true then (takeD d t, true) else (⟨0, 0, []⟩, false)
theorem take_le (d : Dl) (t : A3) : (takeD d t).l.length ≤ d.l.length + 81 := by
  have h1 := lay_le ⟨d.s, d.nx, keep d.l t d.l.length⟩ (needD d.l t)
  have h2 := keep_le d.l t d.l.length
  show (layD ⟨d.s, d.nx, keep d.l t d.l.length⟩ (needD d.l t)).l.length ≤ _
  simp only at h1
  omega
theorem tlR_len (d : Dl) (t : A3) : (tlR d t).1.l.length ≤ 1000 := by
  unfold tlR; split
  · rename_i h
    have h1 := (Dl.ok_iff.1 h.1).len81
    have h2 := take_le d t
    show (takeD d t).l.length ≤ _
    omega
  · simp

set_option maxRecDepth 100000 in
set_option maxHeartbeats 4000000 in
theorem impl_tl (s nx : Int) (l : List Cd) (t : A3) (p : Option Addr) (n cp B : Nat) (w : World) (hn : l.length = n) (hl : n ≤ 1000000000) (ho : Own w B (.slice p n cp) l) (hw : ∀ x ∈ l, wfc x) (ht : wf3 t) :
    Calls Try.prog 53 #[dval s nx (.slice p n cp), t.val] w fun e w' => ∃ u, e = .returned (.tuple #[dval (tlR ⟨s, nx, l⟩ t).1.s (tlR ⟨s, nx, l⟩ t).1.nx u, .bool (tlR ⟨s, nx, l⟩ t).2]) ∧ Own w' w.heap.size u (tlR ⟨s, nx, l⟩ t).1.l ∧ Below w.heap.size w w' := by
  have HWt := Lib.hid ht
  clear ht
  have HN := Lib.hid hn
  have hr := ho.rd
  have hcp : n ≤ cp := by obtain ⟨p', c', e, h, _⟩ := ho.form; injection e with e1 e2 e3; omega
  have HR := Lib.hid hr
  have HW := Lib.hid hw
  have H0 := Lib.hid (Own.nil0 ho)
  have HR0 := Lib.hid hr
  clear hn hr hw ho
  go_enter Try.func53, Try.ntmps53
  go_upto_region 1 with fail
  obtain ⟨w0, ew, b⟩ : ∃ w1 : World, w1 = (((w.alloc (Dv.mk 75 s nx (.slice p n cp)).obj).alloc t.obj).alloc (Dv.mk 75 0 0 (.slice none 0 0)).obj) ∧ Below ((((w.alloc (Dv.mk 75 s nx (.slice p n cp)).obj).alloc t.obj).alloc (Dv.mk 75 0 0 (.slice none 0 0)).obj)).heap.size ((((w.alloc (Dv.mk 75 s nx (.slice p n cp)).obj).alloc t.obj).alloc (Dv.mk 75 0 0 (.slice none 0 0)).obj)) w1 := ⟨_, rfl, Below.refl _ _⟩
  rw [← ew]
  clear ew
  have Sw0 := Lib.hid b.size
  have HB := Lib.hid (chain0 (w := w) (by repeat (first | with_reducible exact Below.refl _ _ | with_reducible exact HB.out | with_reducible apply Below.drew | with_reducible apply bdN | with_reducible refine Below.alloc ?_ (by first | exact Nat.le_refl _ | with_reducible exact HB.out.size | omega | (simp; done) | (simp; omega) | (have := HB.out.size; simp at *; omega)) _ | with_reducible refine Below.setCell ?_ (by first | exact Nat.le_refl _ | with_reducible exact HB.out.size | omega | (simp; done) | (simp; omega) | (have := HB.out.size; simp at *; omega)) _)) b)
  have HR := Lib.hid (Rd.below (by repeat (first | with_reducible exact HR.out | with_reducible apply Rd.drewN | with_reducible apply Rd.drew | with_reducible apply Rd.alloc)) b)
  have K1 : Hid (DBox _ (w.heap.size) (⟨75, s, nx, .slice p n cp⟩)) := Lib.hid (DBox.below (by repeat (first | with_reducible exact K1.out | with_reducible apply DBox.drewN | with_reducible apply DBox.drew | (with_reducible refine DBox.newAt ?_ ?_ <;> first | (simp; done) | rfl) | with_reducible apply DBox.alloc)) b)
  have K3 : Hid (TBox _ (w.heap.size + 1) (t)) := Lib.hid (TBox.below (by repeat (first | with_reducible exact K3.out | with_reducible apply TBox.drewN | with_reducible apply TBox.drew | (with_reducible refine TBox.newAt ?_ ?_ <;> first | (simp; done) | rfl) | with_reducible apply TBox.alloc)) b)
  have K2 : Hid (DBox _ (w.heap.size + 1 + 1) (⟨75, 0, 0, .slice none 0 0⟩)) := Lib.hid (DBox.below (by repeat (first | with_reducible exact K2.out | with_reducible apply DBox.drewN | with_reducible apply DBox.drew | (with_reducible refine DBox.newAt ?_ ?_ <;> first | (simp; done) | rfl) | with_reducible apply DBox.alloc)) b)
  try clear k1a k1b k1c k1d k1z
  have k1z := K1.out.lt
  obtain ⟨k1a, k1b, k1c, k1d⟩ := K1.out.cell
  try clear k3a k3b k3c k3d k3z
  have k3z := K3.out.lt
  obtain ⟨k3a, k3b, k3c, k3d⟩ := K3.out.cell
  try clear k2a k2b k2c k2d k2z
  have k2z := K2.out.lt
  obtain ⟨k2a, k2b, k2c, k2d⟩ := K2.out.cell
  try clear k2f
  have k2f := K2.out.frozen
  clear b
  have HIs := Lib.hid (fun w' (hr' : Rd w' p (flat l)) => impl_isdeal s nx l p n cp w' HN.out hl hcp hr' HW.out)
  cases hok : (Dl.mk s nx l).ok
  · have HT := Lib.hid (show tlR ⟨s, nx, l⟩ t = (⟨0, 0, []⟩, false) by unfold tlR; rw [if_neg (by simp [hok])])
    have HIs := HIs.out
    rw [hok] at HIs
    have HIs := Lib.hid HIs
    clear hok
    have qk1a := fun d os => cell_regrown k1a d os
    have qk1b := fun d os => cell_regrown k1b d os
    have qk1c := fun d os => cell_regrown k1c d os
    have qk3a := fun d os => cell_regrown k3a d os
    have qk3b := fun d os => cell_regrown k3b d os
    have qk3c := fun d os => cell_regrown k3c d os
    have qk2a := fun d os => cell_regrown k2a d os
    have qk2b := fun d os => cell_regrown k2b d os
    have qk2c := fun d os => cell_regrown k2c d os
    refine wp_region_quiet_below (by kernel_rfl) (by kernel_rfl) ?_
    repeat (first | go_big_quiet_step ((go_at_call 115; with_reducible exact Calls.regrown_of (HIs.out _ (HR.out.below (below_regrown _ _ _))))) | quiet_step ((go_at_call 115; with_reducible exact Calls.regrown_of (HIs.out _ (HR.out.below (below_regrown _ _ _))))))
    refine wpQuiet_nil ?_
    intro w1 hw2
    have b : Below w0.heap.size w0 w1 := by obtain ⟨r, hr⟩ := hw2; rw [hr]; exact below_regrown _ _ _
    clear hw2 qk1a qk1b qk1c qk3a qk3b qk3c qk2a qk2b qk2c
    have Sw1 := Lib.hid b.size
    have HB := Lib.hid (chain0 (w := w) (by repeat (first | with_reducible exact Below.refl _ _ | with_reducible exact HB.out | with_reducible apply Below.drew | with_reducible apply bdN | with_reducible refine Below.alloc ?_ (by first | exact Nat.le_refl _ | with_reducible exact HB.out.size | omega | (simp; done) | (simp; omega) | (have := HB.out.size; simp at *; omega)) _ | with_reducible refine Below.setCell ?_ (by first | exact Nat.le_refl _ | with_reducible exact HB.out.size | omega | (simp; done) | (simp; omega) | (have := HB.out.size; simp at *; omega)) _)) b)
    have HR := Lib.hid (Rd.below (by repeat (first | with_reducible exact HR.out | with_reducible apply Rd.drewN | with_reducible apply Rd.drew | with_reducible apply Rd.alloc)) b)
    have K1 : Hid (DBox _ (w.heap.size) (⟨75, s, nx, .slice p n cp⟩)) := Lib.hid (DBox.below (by repeat (first | with_reducible exact K1.out | with_reducible apply DBox.drewN | with_reducible apply DBox.drew | (with_reducible refine DBox.newAt ?_ ?_ <;> first | (simp; done) | rfl) | with_reducible apply DBox.alloc)) b)
    have K3 : Hid (TBox _ (w.heap.size + 1) (t)) := Lib.hid (TBox.below (by repeat (first | with_reducible exact K3.out | with_reducible apply TBox.drewN | with_reducible apply TBox.drew | (with_reducible refine TBox.newAt ?_ ?_ <;> first | (simp; done) | rfl) | with_reducible apply TBox.alloc)) b)
    have K2 : Hid (DBox _ (w.heap.size + 1 + 1) (⟨75, 0, 0, .slice none 0 0⟩)) := Lib.hid (DBox.below (by repeat (first | with_reducible exact K2.out | with_reducible apply DBox.drewN | with_reducible apply DBox.drew | (with_reducible refine DBox.newAt ?_ ?_ <;> first | (simp; done) | rfl) | with_reducible apply DBox.alloc)) b)
    try clear k1a k1b k1c k1d k1z
    have k1z := K1.out.lt
    obtain ⟨k1a, k1b, k1c, k1d⟩ := K1.out.cell
    try clear k3a k3b k3c k3d k3z
    have k3z := K3.out.lt
    obtain ⟨k3a, k3b, k3c, k3d⟩ := K3.out.cell
    try clear k2a k2b k2c k2d k2z
    have k2z := K2.out.lt
    obtain ⟨k2a, k2b, k2c, k2d⟩ := K2.out.cell
    try clear k2f
    have k2f := K2.out.frozen
    clear b
    go_wp2_with fail
    try simp only [Exit.inBlock, Exit.then]
    refine bodyPost_ret (res_deal2 Try.results53 rfl (K2.out.set_ _ _ _)) rfl ?_
    exact ⟨.slice none 0 0, by rw [HT.out]; rfl, by rw [HT.out]; exact Own.none_ _ _, by repeat (first | with_reducible exact Below.refl _ _ | with_reducible exact HB.out | with_reducible apply Below.drew | with_reducible apply bdN | with_reducible refine Below.alloc ?_ (by first | exact Nat.le_refl _ | with_reducible exact HB.out.size | omega | (simp; done) | (simp; omega) | (have := HB.out.size; simp at *; omega)) _ | with_reducible refine Below.setCell ?_ (by first | exact Nat.le_refl _ | with_reducible exact HB.out.size | omega | (simp; done) | (simp; omega) | (have := HB.out.size; simp at *; omega)) _)⟩
  · have HOk := Lib.hid hok
    have HO := Lib.hid (Dl.ok_iff.1 hok)
    have HK := Lib.hid HO.out.cards
    have hl81 : n ≤ 81 := by have h1 := HO.out.len81; have h2 := HN.out; have h3 : l.length ≤ 81 := h1; omega
    have HIs := HIs.out
    rw [hok] at HIs
    have HIs := Lib.hid HIs
    clear hok
    obtain ⟨m, hm⟩ : ∃ m, (lines l).length = m := ⟨_, rfl⟩
    have HMl := Lib.hid hm
    have hm7 : m ≤ 6561 := by
      have h1 := lines_len l
      have h2 : l.length * l.length ≤ 81 * 81 := Nat.mul_le_mul (by rw [HN.out]; exact hl81) (by rw [HN.out]; exact hl81)
      omega
    clear hm
    have HWl := Lib.hid (lines_wf HO.out.2.2.2 (by show l.length ≤ 81; rw [HN.out]; exact hl81))
    obtain ⟨q, hq⟩ : ∃ q, has3 (lines l) t = q := ⟨_, rfl⟩
    have HCo := Lib.hid (fun (w' : World) (pu : Option Addr) (cu : Nat) (hr' : Rd w' pu (A3.flat (lines l))) => contains_a3 (lines l) t pu m cu w' HMl.out (by omega) hr' HWl.out HWt.out)
    rw [hq] at HCo
    have HQ := Lib.hid hq
    clear hq
    go_cut [16] (fun s16 wx => s16 = .bool (!q) ∧ Hid (Below w.heap.size w wx) ∧ Hid (DBox wx w.heap.size ⟨75, s, nx, .slice p n cp⟩) ∧ Hid (TBox wx (w.heap.size + 1) t) ∧ Hid (DBox wx (w.heap.size + 1 + 1) ⟨75, 0, 0, .slice none 0 0⟩))
    case first =>
      go_region_held3 (fun w' => w'.cell? ⟨w.heap.size, 0, none⟩ = some (.int .i64 s) ∧ w'.cell? ⟨w.heap.size, 1, none⟩ = some (.int .i64 nx) ∧ w'.cell? ⟨w.heap.size, 2, none⟩ = some (.slice p n cp) ∧ w'.cell? ⟨w.heap.size + 1, 0, none⟩ = some (.int .i64 t.a) ∧ w'.cell? ⟨w.heap.size + 1, 1, none⟩ = some (.int .i64 t.b) ∧ w'.cell? ⟨w.heap.size + 1, 2, none⟩ = some (.int .i64 t.c)) (first | exact ⟨k1a, k1b, k1c, k3a, k3b, k3c⟩ | go_keep) (first
        | (go_at_call 115; refine (HIs.out _ (by repeat (first | with_reducible exact HR.out | with_reducible apply Rd.drewN | with_reducible apply Rd.drew | with_reducible apply Rd.alloc))).mono ?_; rintro e wq ⟨rfl, b⟩; have HB := Lib.hid (chain0 (w := w) (by repeat (first | with_reducible exact Below.refl _ _ | with_reducible exact HB.out | with_reducible apply Below.drew | with_reducible apply bdN | with_reducible refine Below.alloc ?_ (by first | exact Nat.le_refl _ | with_reducible exact HB.out.size | omega | (simp; done) | (simp; omega) | (have := HB.out.size; simp at *; omega)) _ | with_reducible refine Below.setCell ?_ (by first | exact Nat.le_refl _ | with_reducible exact HB.out.size | omega | (simp; done) | (simp; omega) | (have := HB.out.size; simp at *; omega)) _)) b); have HR := Lib.hid (Rd.below (by repeat (first | with_reducible exact HR.out | with_reducible apply Rd.drewN | with_reducible apply Rd.drew | with_reducible apply Rd.alloc)) b); have K1 : Hid (DBox _ (w.heap.size) (⟨75, s, nx, .slice p n cp⟩)) := Lib.hid (DBox.below (by repeat (first | with_reducible exact K1.out | with_reducible apply DBox.drewN | with_reducible apply DBox.drew | (with_reducible refine DBox.newAt ?_ ?_ <;> first | (simp; done) | rfl) | with_reducible apply DBox.alloc)) b); have K3 : Hid (TBox _ (w.heap.size + 1) (t)) := Lib.hid (TBox.below (by repeat (first | with_reducible exact K3.out | with_reducible apply TBox.drewN | with_reducible apply TBox.drew | (with_reducible refine TBox.newAt ?_ ?_ <;> first | (simp; done) | rfl) | with_reducible apply TBox.alloc)) b); have K2 : Hid (DBox _ (w.heap.size + 1 + 1) (⟨75, 0, 0, .slice none 0 0⟩)) := Lib.hid (DBox.below (by repeat (first | with_reducible exact K2.out | with_reducible apply DBox.drewN | with_reducible apply DBox.drew | (with_reducible refine DBox.newAt ?_ ?_ <;> first | (simp; done) | rfl) | with_reducible apply DBox.alloc)) b); obtain ⟨k1a, k1b, k1c, k1d⟩ := K1.out.cell; have k1z := K1.out.lt; obtain ⟨k3a, k3b, k3c, k3d⟩ := K3.out.cell; have k3z := K3.out.lt; obtain ⟨k2a, k2b, k2c, k2d⟩ := K2.out.cell; have k2z := K2.out.lt; have k2f := K2.out.frozen; (first | (have R1 := Lib.hid (Rd.below (by repeat (first | with_reducible exact R1.out | with_reducible apply Rd.drewN | with_reducible apply Rd.drew | with_reducible apply Rd.alloc)) b)) | skip); clear b)
        | (go_at_call 117; refine (lines_of l p n cp _ HN.out hl81 (by repeat (first | with_reducible exact HR.out | with_reducible apply Rd.drewN | with_reducible apply Rd.drew | with_reducible apply Rd.alloc)) HK.out).mono ?_; rintro e wq ⟨u, rfl, hu, b⟩; obtain ⟨pu, cu, rfl, hcu, ru, _⟩ := hu.form; rw [HMl.out] at hu hcu ⊢; have HB := Lib.hid (chain0 (w := w) (by repeat (first | with_reducible exact Below.refl _ _ | with_reducible exact HB.out | with_reducible apply Below.drew | with_reducible apply bdN | with_reducible refine Below.alloc ?_ (by first | exact Nat.le_refl _ | with_reducible exact HB.out.size | omega | (simp; done) | (simp; omega) | (have := HB.out.size; simp at *; omega)) _ | with_reducible refine Below.setCell ?_ (by first | exact Nat.le_refl _ | with_reducible exact HB.out.size | omega | (simp; done) | (simp; omega) | (have := HB.out.size; simp at *; omega)) _)) b); have HR := Lib.hid (Rd.below (by repeat (first | with_reducible exact HR.out | with_reducible apply Rd.drewN | with_reducible apply Rd.drew | with_reducible apply Rd.alloc)) b); have K1 : Hid (DBox _ (w.heap.size) (⟨75, s, nx, .slice p n cp⟩)) := Lib.hid (DBox.below (by repeat (first | with_reducible exact K1.out | with_reducible apply DBox.drewN | with_reducible apply DBox.drew | (with_reducible refine DBox.newAt ?_ ?_ <;> first | (simp; done) | rfl) | with_reducible apply DBox.alloc)) b); have K3 : Hid (TBox _ (w.heap.size + 1) (t)) := Lib.hid (TBox.below (by repeat (first | with_reducible exact K3.out | with_reducible apply TBox.drewN | with_reducible apply TBox.drew | (with_reducible refine TBox.newAt ?_ ?_ <;> first | (simp; done) | rfl) | with_reducible apply TBox.alloc)) b); have K2 : Hid (DBox _ (w.heap.size + 1 + 1) (⟨75, 0, 0, .slice none 0 0⟩)) := Lib.hid (DBox.below (by repeat (first | with_reducible exact K2.out | with_reducible apply DBox.drewN | with_reducible apply DBox.drew | (with_reducible refine DBox.newAt ?_ ?_ <;> first | (simp; done) | rfl) | with_reducible apply DBox.alloc)) b); obtain ⟨k1a, k1b, k1c, k1d⟩ := K1.out.cell; have k1z := K1.out.lt; obtain ⟨k3a, k3b, k3c, k3d⟩ := K3.out.cell; have k3z := K3.out.lt; obtain ⟨k2a, k2b, k2c, k2d⟩ := K2.out.cell; have k2z := K2.out.lt; have k2f := K2.out.frozen; have R1 := Lib.hid ru; clear b hu hcu ru)
        | (go_at_call 116; refine (HCo.out _ _ _ (by repeat (first | with_reducible exact R1.out | with_reducible apply Rd.drewN | with_reducible apply Rd.drew | with_reducible apply Rd.alloc))).mono ?_; rintro e wq ⟨rfl, b⟩; have HB := Lib.hid (chain0 (w := w) (by repeat (first | with_reducible exact Below.refl _ _ | with_reducible exact HB.out | with_reducible apply Below.drew | with_reducible apply bdN | with_reducible refine Below.alloc ?_ (by first | exact Nat.le_refl _ | with_reducible exact HB.out.size | omega | (simp; done) | (simp; omega) | (have := HB.out.size; simp at *; omega)) _ | with_reducible refine Below.setCell ?_ (by first | exact Nat.le_refl _ | with_reducible exact HB.out.size | omega | (simp; done) | (simp; omega) | (have := HB.out.size; simp at *; omega)) _)) b); have HR := Lib.hid (Rd.below (by repeat (first | with_reducible exact HR.out | with_reducible apply Rd.drewN | with_reducible apply Rd.drew | with_reducible apply Rd.alloc)) b); have K1 : Hid (DBox _ (w.heap.size) (⟨75, s, nx, .slice p n cp⟩)) := Lib.hid (DBox.below (by repeat (first | with_reducible exact K1.out | with_reducible apply DBox.drewN | with_reducible apply DBox.drew | (with_reducible refine DBox.newAt ?_ ?_ <;> first | (simp; done) | rfl) | with_reducible apply DBox.alloc)) b); have K3 : Hid (TBox _ (w.heap.size + 1) (t)) := Lib.hid (TBox.below (by repeat (first | with_reducible exact K3.out | with_reducible apply TBox.drewN | with_reducible apply TBox.drew | (with_reducible refine TBox.newAt ?_ ?_ <;> first | (simp; done) | rfl) | with_reducible apply TBox.alloc)) b); have K2 : Hid (DBox _ (w.heap.size + 1 + 1) (⟨75, 0, 0, .slice none 0 0⟩)) := Lib.hid (DBox.below (by repeat (first | with_reducible exact K2.out | with_reducible apply DBox.drewN | with_reducible apply DBox.drew | (with_reducible refine DBox.newAt ?_ ?_ <;> first | (simp; done) | rfl) | with_reducible apply DBox.alloc)) b); obtain ⟨k1a, k1b, k1c, k1d⟩ := K1.out.cell; have k1z := K1.out.lt; obtain ⟨k3a, k3b, k3c, k3d⟩ := K3.out.cell; have k3z := K3.out.lt; obtain ⟨k2a, k2b, k2c, k2d⟩ := K2.out.cell; have k2z := K2.out.lt; have k2f := K2.out.frozen; clear b))
      all_goals
        go_wp2_with fail
        go_meet
        case rel => exact ⟨rfl, HB, K1, K3, K2⟩
    case rest =>
      clear HB K1 K2 K3 k1a k1b k1c k1d k1z k2a k2b k2c k2d k2z k2f k3a k3b k3c k3d k3z HR
      obtain ⟨rfl, HB, K1, K3, K2⟩ := hcut
      obtain ⟨k1a, k1b, k1c, k1d⟩ := K1.out.cell
      have k1z := K1.out.lt
      obtain ⟨k2a, k2b, k2c, k2d⟩ := K2.out.cell
      have k2z := K2.out.lt
      have k2f := K2.out.frozen
      obtain ⟨k3a, k3b, k3c, k3d⟩ := K3.out.cell
      have k3z := K3.out.lt
      have HR := Lib.hid (Rd.below HR0.out HB.out)
      cases q
      · have HT := Lib.hid (show tlR ⟨s, nx, l⟩ t = (⟨0, 0, []⟩, false) by unfold tlR; rw [if_neg (fun h => by have h2 : has3 (lines l) t = true := h.2; rw [HQ.out] at h2; cases h2)])
        go_wp2_with fail
        try simp only [Exit.inBlock, Exit.then]
        refine bodyPost_ret (res_deal2 Try.results53 rfl (K2.out.set_ _ _ _)) rfl ?_
        exact ⟨.slice none 0 0, by rw [HT.out]; rfl, by rw [HT.out]; exact Own.none_ _ _, by repeat (first | with_reducible exact Below.refl _ _ | with_reducible exact HB.out | with_reducible apply Below.drew | with_reducible apply bdN | with_reducible refine Below.alloc ?_ (by first | exact Nat.le_refl _ | with_reducible exact HB.out.size | omega | (simp; done) | (simp; omega) | (have := HB.out.size; simp at *; omega)) _ | with_reducible refine Below.setCell ?_ (by first | exact Nat.le_refl _ | with_reducible exact HB.out.size | omega | (simp; done) | (simp; omega) | (have := HB.out.size; simp at *; omega)) _)⟩
      · have h3 := HQ.out
        have HT0 := Lib.hid (show tlR ⟨s, nx, l⟩ t = (takeD ⟨s, nx, l⟩ t, true) by unfold tlR; rw [if_pos ⟨HOk.out, h3⟩])
        clear h3
        have hnx := HO.out.2.1
        obtain ⟨a, ha⟩ : ∃ a : Nat, nx = (a : Int) := ⟨nx.toNat, by have h1 : 0 ≤ nx := hnx.1; omega⟩
        have ha81 : a ≤ 81 := by have h1 : nx ≤ 81 := hnx.2; omega
        subst ha
        have HT := Lib.hid HT0.out
        go_wp2_with fail
        refine (impl_take s a l t p n cp _ HO.out.1 ha81 HN.out hl81 (by repeat (first | with_reducible exact HR.out | with_reducible apply Rd.drewN | with_reducible apply Rd.drew | with_reducible apply Rd.alloc))).mono ?_
        rintro e w4 ⟨u, rfl, hu, b⟩
        have HZ := Lib.hid (show w.heap.size + 1 + 1 + 1 ≤ _ from K2.out.lt)
        have Sw4 := Lib.hid b.size
        have HB := Lib.hid (chain0 (w := w) (by repeat (first | with_reducible exact Below.refl _ _ | with_reducible exact HB.out | with_reducible apply Below.drew | with_reducible apply bdN | with_reducible refine Below.alloc ?_ (by first | exact Nat.le_refl _ | with_reducible exact HB.out.size | omega | (simp; done) | (simp; omega) | (have := HB.out.size; simp at *; omega)) _ | with_reducible refine Below.setCell ?_ (by first | exact Nat.le_refl _ | with_reducible exact HB.out.size | omega | (simp; done) | (simp; omega) | (have := HB.out.size; simp at *; omega)) _)) b)
        have HR := Lib.hid (Rd.below (by repeat (first | with_reducible exact HR.out | with_reducible apply Rd.drewN | with_reducible apply Rd.drew | with_reducible apply Rd.alloc)) b)
        have K3 : Hid (TBox _ (w.heap.size + 1) (t)) := Lib.hid (TBox.below (by repeat (first | with_reducible exact K3.out | with_reducible apply TBox.drewN | with_reducible apply TBox.drew | (with_reducible refine TBox.newAt ?_ ?_ <;> first | (simp; done) | rfl) | with_reducible apply TBox.alloc)) b)
        have K2 : Hid (DBox _ (w.heap.size + 1 + 1) (⟨75, 0, 0, .slice none 0 0⟩)) := Lib.hid (DBox.below (by repeat (first | with_reducible exact K2.out | with_reducible apply DBox.drewN | with_reducible apply DBox.drew | (with_reducible refine DBox.newAt ?_ ?_ <;> first | (simp; done) | rfl) | with_reducible apply DBox.alloc)) b)
        have K1 : Hid (DBox _ (w.heap.size) (⟨75, s, a, .slice p n cp⟩)) := Lib.hid (DBox.below (by repeat (first | with_reducible exact K1.out | with_reducible apply DBox.drewN | with_reducible apply DBox.drew | (with_reducible refine DBox.newAt ?_ ?_ <;> first | (simp; done) | rfl) | with_reducible apply DBox.alloc)) b)
        try clear k3a k3b k3c k3d k3z
        have k3z := K3.out.lt
        obtain ⟨k3a, k3b, k3c, k3d⟩ := K3.out.cell
        try clear k2a k2b k2c k2d k2z
        have k2z := K2.out.lt
        obtain ⟨k2a, k2b, k2c, k2d⟩ := K2.out.cell
        try clear k2f
        have k2f := K2.out.frozen
        try clear k1a k1b k1c k1d k1z
        have k1z := K1.out.lt
        obtain ⟨k1a, k1b, k1c, k1d⟩ := K1.out.cell
        clear b
        have HU := Lib.hid (hu.base HZ.out)
        obtain ⟨pv, cv, rfl, _, _, _⟩ := HU.out.form
        clear hu
        have k2f := K2.out.frozen
        go_wp2_with fail
        try simp only [Exit.inBlock, Exit.then]
        refine bodyPost_ret (res_deal2 Try.results53 rfl (K2.out.set_ _ _ _)) rfl ?_
        exact ⟨_, by rw [HT.out]; rfl, by rw [HT.out]; exact (Own.far (Own.far (Own.far HU.out (Nat.lt_succ_self _) _) (Nat.lt_succ_self _) _) (Nat.lt_succ_self _) _).base (show w.heap.size ≤ w.heap.size + 1 + 1 + 1 by omega), by repeat (first | with_reducible exact Below.refl _ _ | with_reducible exact HB.out | with_reducible apply Below.drew | with_reducible apply bdN | with_reducible refine Below.alloc ?_ (by first | exact Nat.le_refl _ | with_reducible exact HB.out.size | omega | (simp; done) | (simp; omega) | (have := HB.out.size; simp at *; omega)) _ | with_reducible refine Below.setCell ?_ (by first | exact Nat.le_refl _ | with_reducible exact HB.out.size | omega | (simp; done) | (simp; omega) | (have := HB.out.size; simp at *; omega)) _)⟩

set_option maxRecDepth 100000 in
set_option maxHeartbeats 4000000 in
theorem spec_tl (s nx : Int) (l : List Cd) (t : A3) (p : Option Addr) (n cp B : Nat) (w : World) (hn : l.length = n) (hl : n ≤ 1000000000) (ho : Own w B (.slice p n cp) l) (hw : ∀ x ∈ l, wfc x) (ht : wf3 t) :
    Calls Try.prog 50 #[dval s nx (.slice p n cp), t.val] w fun e w' => ∃ u, e = .returned (.tuple #[dval (tlR ⟨s, nx, l⟩ t).1.s (tlR ⟨s, nx, l⟩ t).1.nx u, .bool (tlR ⟨s, nx, l⟩ t).2]) ∧ Own w' w.heap.size u (tlR ⟨s, nx, l⟩ t).1.l ∧ Below w.heap.size w w' := by
  have HWt := Lib.hid ht
  clear ht
  have HN := Lib.hid hn
  have hr := ho.rd
  have hcp : n ≤ cp := by obtain ⟨p', c', e, h, _⟩ := ho.form; injection e with e1 e2 e3; omega
  have HR := Lib.hid hr
  have HW := Lib.hid hw
  have H0 := Lib.hid (Own.nil0 ho)
  have HR0 := Lib.hid hr
  clear hn hr hw ho
  go_enter Try.func50, Try.ntmps50
  go_wp2_with fail
  refine ((l4_deal s nx l p n cp _ HN.out hl hcp (by repeat (first | with_reducible exact HR.out | with_reducible apply Rd.drewN | with_reducible apply Rd.drew | with_reducible apply Rd.alloc)) HW.out)).mono ?_
  rintro e w1 ⟨rfl, b⟩
  have Sw1 := Lib.hid b.size
  have HB := Lib.hid (chain0 (w := w) (by repeat (first | with_reducible exact Below.refl _ _ | with_reducible exact HB.out | with_reducible apply Below.drew | with_reducible apply bdN | with_reducible refine Below.alloc ?_ (by first | exact Nat.le_refl _ | with_reducible exact HB.out.size | omega | (simp; done) | (simp; omega) | (have := HB.out.size; simp at *; omega)) _ | with_reducible refine Below.setCell ?_ (by first | exact Nat.le_refl _ | with_reducible exact HB.out.size | omega | (simp; done) | (simp; omega) | (have := HB.out.size; simp at *; omega)) _)) b)
  have HR := Lib.hid (Rd.below (by repeat (first | with_reducible exact HR.out | with_reducible apply Rd.drewN | with_reducible apply Rd.drew | with_reducible apply Rd.alloc)) b)
  have K1 : Hid (DBox _ (w.heap.size) (⟨75, s, nx, .slice p n cp⟩)) := Lib.hid (DBox.below (by repeat (first | with_reducible exact K1.out | with_reducible apply DBox.drewN | with_reducible apply DBox.drew | (with_reducible refine DBox.newAt ?_ ?_ <;> first | (simp; done) | rfl) | with_reducible apply DBox.alloc)) b)
  have K3 : Hid (TBox _ (w.heap.size + 1) (t)) := Lib.hid (TBox.below (by repeat (first | with_reducible exact K3.out | with_reducible apply TBox.drewN | with_reducible apply TBox.drew | (with_reducible refine TBox.newAt ?_ ?_ <;> first | (simp; done) | rfl) | with_reducible apply TBox.alloc)) b)
  have K2 : Hid (DBox _ (w.heap.size + 1 + 1) (⟨75, 0, 0, .slice none 0 0⟩)) := Lib.hid (DBox.below (by repeat (first | with_reducible exact K2.out | with_reducible apply DBox.drewN | with_reducible apply DBox.drew | (with_reducible refine DBox.newAt ?_ ?_ <;> first | (simp; done) | rfl) | with_reducible apply DBox.alloc)) b)
  try clear k1a k1b k1c k1d k1z
  have k1z := K1.out.lt
  obtain ⟨k1a, k1b, k1c, k1d⟩ := K1.out.cell
  try clear k3a k3b k3c k3d k3z
  have k3z := K3.out.lt
  obtain ⟨k3a, k3b, k3c, k3d⟩ := K3.out.cell
  try clear k2a k2b k2c k2d k2z
  have k2z := K2.out.lt
  obtain ⟨k2a, k2b, k2c, k2d⟩ := K2.out.cell
  try clear k2f
  have k2f := K2.out.frozen
  clear b
  cases hok : (Dl.mk s nx l).ok
  · have HT := Lib.hid (show tlR ⟨s, nx, l⟩ t = (⟨0, 0, []⟩, false) by unfold tlR; rw [if_neg (by simp [hok])])
    go_wp2_with fail
    try simp only [Exit.inBlock, Exit.then]
    refine bodyPost_ret (res_deal2 Try.results50 rfl (K2.out.set_ _ _ _)) rfl ?_
    exact ⟨.slice none 0 0, by rw [HT.out]; rfl, by rw [HT.out]; exact Own.none_ _ _, by repeat (first | with_reducible exact Below.refl _ _ | with_reducible exact HB.out | with_reducible apply Below.drew | with_reducible apply bdN | with_reducible refine Below.alloc ?_ (by first | exact Nat.le_refl _ | with_reducible exact HB.out.size | omega | (simp; done) | (simp; omega) | (have := HB.out.size; simp at *; omega)) _ | with_reducible refine Below.setCell ?_ (by first | exact Nat.le_refl _ | with_reducible exact HB.out.size | omega | (simp; done) | (simp; omega) | (have := HB.out.size; simp at *; omega)) _)⟩
  · have HOk := Lib.hid hok
    have HO := Lib.hid (Dl.ok_iff.1 hok)
    have HK := Lib.hid HO.out.cards
    have hl81 : n ≤ 81 := by have h1 := HO.out.len81; have h2 := HN.out; have h3 : l.length ≤ 81 := h1; omega
    clear hok
    go_wp2_with fail
    refine ((l4_line s nx l t p n cp _ HN.out hl81 (by repeat (first | with_reducible exact HR.out | with_reducible apply Rd.drewN | with_reducible apply Rd.drew | with_reducible apply Rd.alloc)) HK.out HO.out.2.2.2 HWt.out)).mono ?_
    rintro e w2 ⟨rfl, b⟩
    have Sw2 := Lib.hid b.size
    have HB := Lib.hid (chain0 (w := w) (by repeat (first | with_reducible exact Below.refl _ _ | with_reducible exact HB.out | with_reducible apply Below.drew | with_reducible apply bdN | with_reducible refine Below.alloc ?_ (by first | exact Nat.le_refl _ | with_reducible exact HB.out.size | omega | (simp; done) | (simp; omega) | (have := HB.out.size; simp at *; omega)) _ | with_reducible refine Below.setCell ?_ (by first | exact Nat.le_refl _ | with_reducible exact HB.out.size | omega | (simp; done) | (simp; omega) | (have := HB.out.size; simp at *; omega)) _)) b)
    have HR := Lib.hid (Rd.below (by repeat (first | with_reducible exact HR.out | with_reducible apply Rd.drewN | with_reducible apply Rd.drew | with_reducible apply Rd.alloc)) b)
    have K1 : Hid (DBox _ (w.heap.size) (⟨75, s, nx, .slice p n cp⟩)) := Lib.hid (DBox.below (by repeat (first | with_reducible exact K1.out | with_reducible apply DBox.drewN | with_reducible apply DBox.drew | (with_reducible refine DBox.newAt ?_ ?_ <;> first | (simp; done) | rfl) | with_reducible apply DBox.alloc)) b)
    have K3 : Hid (TBox _ (w.heap.size + 1) (t)) := Lib.hid (TBox.below (by repeat (first | with_reducible exact K3.out | with_reducible apply TBox.drewN | with_reducible apply TBox.drew | (with_reducible refine TBox.newAt ?_ ?_ <;> first | (simp; done) | rfl) | with_reducible apply TBox.alloc)) b)
    have K2 : Hid (DBox _ (w.heap.size + 1 + 1) (⟨75, 0, 0, .slice none 0 0⟩)) := Lib.hid (DBox.below (by repeat (first | with_reducible exact K2.out | with_reducible apply DBox.drewN | with_reducible apply DBox.drew | (with_reducible refine DBox.newAt ?_ ?_ <;> first | (simp; done) | rfl) | with_reducible apply DBox.alloc)) b)
    try clear k1a k1b k1c k1d k1z
    have k1z := K1.out.lt
    obtain ⟨k1a, k1b, k1c, k1d⟩ := K1.out.cell
    try clear k3a k3b k3c k3d k3z
    have k3z := K3.out.lt
    obtain ⟨k3a, k3b, k3c, k3d⟩ := K3.out.cell
    try clear k2a k2b k2c k2d k2z
    have k2z := K2.out.lt
    obtain ⟨k2a, k2b, k2c, k2d⟩ := K2.out.cell
    try clear k2f
    have k2f := K2.out.frozen
    clear b
    cases h3 : has3 (lines l) t
    · have HT := Lib.hid (show tlR ⟨s, nx, l⟩ t = (⟨0, 0, []⟩, false) by unfold tlR; rw [if_neg (by simp [h3])])
      go_wp2_with fail
      try simp only [Exit.inBlock, Exit.then]
      refine bodyPost_ret (res_deal2 Try.results50 rfl (K2.out.set_ _ _ _)) rfl ?_
      exact ⟨.slice none 0 0, by rw [HT.out]; rfl, by rw [HT.out]; exact Own.none_ _ _, by repeat (first | with_reducible exact Below.refl _ _ | with_reducible exact HB.out | with_reducible apply Below.drew | with_reducible apply bdN | with_reducible refine Below.alloc ?_ (by first | exact Nat.le_refl _ | with_reducible exact HB.out.size | omega | (simp; done) | (simp; omega) | (have := HB.out.size; simp at *; omega)) _ | with_reducible refine Below.setCell ?_ (by first | exact Nat.le_refl _ | with_reducible exact HB.out.size | omega | (simp; done) | (simp; omega) | (have := HB.out.size; simp at *; omega)) _)⟩
    · skip
      have HT0 := Lib.hid (show tlR ⟨s, nx, l⟩ t = (takeD ⟨s, nx, l⟩ t, true) by unfold tlR; rw [if_pos ⟨HOk.out, h3⟩])
      clear h3
      have hnx := HO.out.2.1
      obtain ⟨a, ha⟩ : ∃ a : Nat, nx = (a : Int) := ⟨nx.toNat, by have h1 : 0 ≤ nx := hnx.1; omega⟩
      have ha81 : a ≤ 81 := by have h1 : nx ≤ 81 := hnx.2; omega
      subst ha
      have HT := Lib.hid HT0.out
      go_wp2_with fail
      refine (l4_take s a l t p n cp _ HO.out.1 ha81 HN.out hl81 (by repeat (first | with_reducible exact HR.out | with_reducible apply Rd.drewN | with_reducible apply Rd.drew | with_reducible apply Rd.alloc))).mono ?_
      rintro e w4 ⟨u, rfl, hu, b⟩
      have HZ := Lib.hid (show w.heap.size + 1 + 1 + 1 ≤ _ from K2.out.lt)
      have Sw4 := Lib.hid b.size
      have HB := Lib.hid (chain0 (w := w) (by repeat (first | with_reducible exact Below.refl _ _ | with_reducible exact HB.out | with_reducible apply Below.drew | with_reducible apply bdN | with_reducible refine Below.alloc ?_ (by first | exact Nat.le_refl _ | with_reducible exact HB.out.size | omega | (simp; done) | (simp; omega) | (have := HB.out.size; simp at *; omega)) _ | with_reducible refine Below.setCell ?_ (by first | exact Nat.le_refl _ | with_reducible exact HB.out.size | omega | (simp; done) | (simp; omega) | (have := HB.out.size; simp at *; omega)) _)) b)
      have HR := Lib.hid (Rd.below (by repeat (first | with_reducible exact HR.out | with_reducible apply Rd.drewN | with_reducible apply Rd.drew | with_reducible apply Rd.alloc)) b)
      have K3 : Hid (TBox _ (w.heap.size + 1) (t)) := Lib.hid (TBox.below (by repeat (first | with_reducible exact K3.out | with_reducible apply TBox.drewN | with_reducible apply TBox.drew | (with_reducible refine TBox.newAt ?_ ?_ <;> first | (simp; done) | rfl) | with_reducible apply TBox.alloc)) b)
      have K2 : Hid (DBox _ (w.heap.size + 1 + 1) (⟨75, 0, 0, .slice none 0 0⟩)) := Lib.hid (DBox.below (by repeat (first | with_reducible exact K2.out | with_reducible apply DBox.drewN | with_reducible apply DBox.drew | (with_reducible refine DBox.newAt ?_ ?_ <;> first | (simp; done) | rfl) | with_reducible apply DBox.alloc)) b)
      have K1 : Hid (DBox _ (w.heap.size) (⟨75, s, a, .slice p n cp⟩)) := Lib.hid (DBox.below (by repeat (first | with_reducible exact K1.out | with_reducible apply DBox.drewN | with_reducible apply DBox.drew | (with_reducible refine DBox.newAt ?_ ?_ <;> first | (simp; done) | rfl) | with_reducible apply DBox.alloc)) b)
      try clear k3a k3b k3c k3d k3z
      have k3z := K3.out.lt
      obtain ⟨k3a, k3b, k3c, k3d⟩ := K3.out.cell
      try clear k2a k2b k2c k2d k2z
      have k2z := K2.out.lt
      obtain ⟨k2a, k2b, k2c, k2d⟩ := K2.out.cell
      try clear k2f
      have k2f := K2.out.frozen
      try clear k1a k1b k1c k1d k1z
      have k1z := K1.out.lt
      obtain ⟨k1a, k1b, k1c, k1d⟩ := K1.out.cell
      clear b
      have HU := Lib.hid (hu.base HZ.out)
      obtain ⟨pv, cv, rfl, _, _, _⟩ := HU.out.form
      clear hu
      have k2f := K2.out.frozen
      go_wp2_with fail
      try simp only [Exit.inBlock, Exit.then]
      refine bodyPost_ret (res_deal2 Try.results50 rfl (K2.out.set_ _ _ _)) rfl ?_
      exact ⟨_, by rw [HT.out]; rfl, by rw [HT.out]; exact (Own.far (Own.far (Own.far HU.out (Nat.lt_succ_self _) _) (Nat.lt_succ_self _) _) (Nat.lt_succ_self _) _).base (show w.heap.size ≤ w.heap.size + 1 + 1 + 1 by omega), by repeat (first | with_reducible exact Below.refl _ _ | with_reducible exact HB.out | with_reducible apply Below.drew | with_reducible apply bdN | with_reducible refine Below.alloc ?_ (by first | exact Nat.le_refl _ | with_reducible exact HB.out.size | omega | (simp; done) | (simp; omega) | (have := HB.out.size; simp at *; omega)) _ | with_reducible refine Below.setCell ?_ (by first | exact Nat.le_refl _ | with_reducible exact HB.out.size | omega | (simp; done) | (simp; omega) | (have := HB.out.size; simp at *; omega)) _)⟩

end Go.Proofs.Ytngfdfgeoieebab.deal
