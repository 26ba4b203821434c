/- Merged texts: Ev, Eo, Ew. -/
import Derived.Test.YteccbcbijfcpmaaGClaimKind0
import Derived.BigQuiet
/- The kind of a claim: the program's and the model's. -/
namespace Go.Proofs.Yteccbcbijfcpmaa.game
open Go.RowKit
open cards deal
set_option linter.unusedVariables false

theorem kind_r {l : List Cd} {ns : Nat} {c : Cd} (h : rightB l ns c = true) : kind l ns c = 1 := by unfold kind; rw [if_pos h]
theorem kind_w {l : List Cd} {ns : Nat} {c : Cd} (h : rightB l ns c = false) (h1 : isP ns c.a = true) (h2 : onT l.length (plc c) = true) : kind l ns c = 2 := by unfold kind; rw [if_neg (by simp [h]), if_pos (by simp [h1, h2])]
theorem kind_i {l : List Cd} {ns : Nat} {c : Cd} (h : rightB l ns c = false) (h1 : (isP ns c.a && onT l.length (plc c)) = false) : kind l ns c = 3 := by unfold kind; rw [if_neg (by simp [h]), if_neg (by simp [h1])]

set_option maxRecDepth 100000 in
set_option maxHeartbeats 4000000 in
theorem kind_of (s nx : Int) (l : List Cd) (cl : Cd) (p ps pw : Option Addr) (n c ns cs nw cw : Nat) (w : World) (hn : l.length = n) (hl : n ≤ 81) (hns : ns ≤ 1000) (hr : Rd w p (flat l)) (hok : l.all Cd.ok = true) (hd : l.Nodup) (hw : wfc cl) :
    Calls Try.prog 70 #[gval s nx (.slice p n c) (.slice ps ns cs) (.slice pw nw cw), cl.val] w fun e w' => e = .returned (.int .i64 (kind l ns cl)) ∧ Below w.heap.size w w' := by
  have HR := Lib.hid hr
  have HRi := Lib.hid (fun w h => is_right s nx l cl p ps pw n c ns cs nw cw w hn hl hns h hok hd hw)
  have HPl := Lib.hid (fun w => is_player s nx cl.a p ps pw n c ns cs nw cw w)
  have HOt := Lib.hid (fun w => on_table (plc cl) p n c w)
  have HN := Lib.hid hn
  obtain ⟨b1, hb1⟩ : ∃ b1, rightB l ns cl = b1 := ⟨_, rfl⟩
  obtain ⟨b2, hb2⟩ : ∃ b2, isP ns cl.a = b2 := ⟨_, rfl⟩
  obtain ⟨b3, hb3⟩ : ∃ b3, onT n (plc cl) = b3 := ⟨_, rfl⟩
  rw [hb1] at HRi
  rw [hb2] at HPl
  rw [hb3] at HOt
  have H1 := Lib.hid hb1
  have H2 := Lib.hid hb2
  have H3 := Lib.hid hb3
  have K3 : Hid (CBox ((w.alloc (Gv.obj ⟨27, s, nx, .slice p n c, .slice ps ns cs, .slice pw nw cw⟩)).alloc (Cv.obj ⟨45, cl⟩)) (w.heap.size + 1) ⟨45, cl⟩) := Lib.hid (CBox.newAt (by simp) rfl)
  clear hr hn hok hd hw hb1 hb2 hb3
  cases b1
  · cases b2
    · have HT := Lib.hid (kind_i H1.out (by rw [H2.out]; rfl))
      rw [HT.out]
      go_enter Try.func70, Try.ntmps70
      go_upto_region 2 with fail
      obtain ⟨w0, ew, b⟩ : ∃ wOPN : World, wOPN = ((w.alloc (Gv.obj ⟨27, s, nx, .slice p n c, .slice ps ns cs, .slice pw nw cw⟩)).alloc (Cv.obj ⟨45, cl⟩)) ∧ Below (((w.alloc (Gv.obj ⟨27, s, nx, .slice p n c, .slice ps ns cs, .slice pw nw cw⟩)).alloc (Cv.obj ⟨45, cl⟩))).heap.size (((w.alloc (Gv.obj ⟨27, s, nx, .slice p n c, .slice ps ns cs, .slice pw nw cw⟩)).alloc (Cv.obj ⟨45, cl⟩))) wOPN := ⟨_, rfl, Below.refl _ _⟩
      rw [← ew]
      clear ew
      have Sw0 := Lib.hid b.size
      have HB := Lib.hid (chain0 (w := w) (by repeat (first | with_reducible exact Below.refl _ _ | with_reducible exact HB.out | with_reducible apply Below.drew | with_reducible apply bdN | with_reducible refine Below.alloc ?_ (by first | exact Nat.le_refl _ | with_reducible exact HB.out.size | omega | (simp; done) | (simp; omega) | (have := HB.out.size; simp at *; omega)) _ | with_reducible refine Below.setCell ?_ (by first | exact Nat.le_refl _ | with_reducible exact HB.out.size | omega | (simp; done) | (simp; omega) | (have := HB.out.size; simp at *; omega)) _)) b)
      have HR := Lib.hid (Rd.below (by repeat (first | with_reducible exact HR.out | with_reducible apply Rd.drewN | with_reducible apply Rd.drew | with_reducible apply Rd.alloc)) b)
      have K2 : Hid (GBox _ (w.heap.size) (⟨27, s, nx, .slice p n c, .slice ps ns cs, .slice pw nw cw⟩)) := Lib.hid (GBox.below (by repeat (first | with_reducible exact K2.out | with_reducible apply GBox.drewN | with_reducible apply GBox.drew | (with_reducible refine GBox.newAt ?_ ?_ <;> first | (simp; done) | rfl) | with_reducible apply GBox.alloc)) b)
      have K3 : Hid (CBox _ (w.heap.size + 1) (⟨45, cl⟩)) := Lib.hid (CBox.below (by repeat (first | with_reducible exact K3.out | with_reducible apply CBox.drewN | with_reducible apply CBox.drew | (with_reducible refine CBox.newAt ?_ ?_ <;> first | (simp; done) | rfl) | with_reducible apply CBox.alloc)) b)
      try clear k2a k2b k2c k2d k2e k2z
      have k2z := K2.out.lt
      obtain ⟨k2a, k2b, k2c, k2d, k2e⟩ := K2.out.cell
      try clear k3a k3b k3c k3d k3z
      have k3z := K3.out.lt
      obtain ⟨k3a, k3b, k3c, k3d⟩ := K3.out.cell
      clear b
      go_wp2_with fail
      refine ((HRi.out _ HR.out)).mono ?_
      rintro e w1 ⟨rfl, b⟩
      have Sw1 := Lib.hid b.size
      have HB := Lib.hid (chain0 (w := w) (by repeat (first | with_reducible exact Below.refl _ _ | with_reducible exact HB.out | with_reducible apply Below.drew | with_reducible apply bdN | with_reducible refine Below.alloc ?_ (by first | exact Nat.le_refl _ | with_reducible exact HB.out.size | omega | (simp; done) | (simp; omega) | (have := HB.out.size; simp at *; omega)) _ | with_reducible refine Below.setCell ?_ (by first | exact Nat.le_refl _ | with_reducible exact HB.out.size | omega | (simp; done) | (simp; omega) | (have := HB.out.size; simp at *; omega)) _)) b)
      have HR := Lib.hid (Rd.below (by repeat (first | with_reducible exact HR.out | with_reducible apply Rd.drewN | with_reducible apply Rd.drew | with_reducible apply Rd.alloc)) b)
      have K2 : Hid (GBox _ (w.heap.size) (⟨27, s, nx, .slice p n c, .slice ps ns cs, .slice pw nw cw⟩)) := Lib.hid (GBox.below (by repeat (first | with_reducible exact K2.out | with_reducible apply GBox.drewN | with_reducible apply GBox.drew | (with_reducible refine GBox.newAt ?_ ?_ <;> first | (simp; done) | rfl) | with_reducible apply GBox.alloc)) b)
      have K3 : Hid (CBox _ (w.heap.size + 1) (⟨45, cl⟩)) := Lib.hid (CBox.below (by repeat (first | with_reducible exact K3.out | with_reducible apply CBox.drewN | with_reducible apply CBox.drew | (with_reducible refine CBox.newAt ?_ ?_ <;> first | (simp; done) | rfl) | with_reducible apply CBox.alloc)) b)
      try clear k2a k2b k2c k2d k2e k2z
      have k2z := K2.out.lt
      obtain ⟨k2a, k2b, k2c, k2d, k2e⟩ := K2.out.cell
      try clear k3a k3b k3c k3d k3z
      have k3z := K3.out.lt
      obtain ⟨k3a, k3b, k3c, k3d⟩ := K3.out.cell
      clear b
      go_wp2_with fail
      refine ((HPl.out _)).mono ?_
      rintro e w2 ⟨rfl, b⟩
      have Sw2 := Lib.hid b.size
      have HB := Lib.hid (chain0 (w := w) (by repeat (first | with_reducible exact Below.refl _ _ | with_reducible exact HB.out | with_reducible apply Below.drew | with_reducible apply bdN | with_reducible refine Below.alloc ?_ (by first | exact Nat.le_refl _ | with_reducible exact HB.out.size | omega | (simp; done) | (simp; omega) | (have := HB.out.size; simp at *; omega)) _ | with_reducible refine Below.setCell ?_ (by first | exact Nat.le_refl _ | with_reducible exact HB.out.size | omega | (simp; done) | (simp; omega) | (have := HB.out.size; simp at *; omega)) _)) b)
      have HR := Lib.hid (Rd.below (by repeat (first | with_reducible exact HR.out | with_reducible apply Rd.drewN | with_reducible apply Rd.drew | with_reducible apply Rd.alloc)) b)
      have K2 : Hid (GBox _ (w.heap.size) (⟨27, s, nx, .slice p n c, .slice ps ns cs, .slice pw nw cw⟩)) := Lib.hid (GBox.below (by repeat (first | with_reducible exact K2.out | with_reducible apply GBox.drewN | with_reducible apply GBox.drew | (with_reducible refine GBox.newAt ?_ ?_ <;> first | (simp; done) | rfl) | with_reducible apply GBox.alloc)) b)
      have K3 : Hid (CBox _ (w.heap.size + 1) (⟨45, cl⟩)) := Lib.hid (CBox.below (by repeat (first | with_reducible exact K3.out | with_reducible apply CBox.drewN | with_reducible apply CBox.drew | (with_reducible refine CBox.newAt ?_ ?_ <;> first | (simp; done) | rfl) | with_reducible apply CBox.alloc)) b)
      try clear k2a k2b k2c k2d k2e k2z
      have k2z := K2.out.lt
      obtain ⟨k2a, k2b, k2c, k2d, k2e⟩ := K2.out.cell
      try clear k3a k3b k3c k3d k3z
      have k3z := K3.out.lt
      obtain ⟨k3a, k3b, k3c, k3d⟩ := K3.out.cell
      clear b
      go_wp2_with fail
      go_ret
      exact ⟨rfl, by repeat (first | with_reducible exact Below.refl _ _ | with_reducible exact HB.out | with_reducible apply Below.drew | with_reducible apply bdN | with_reducible refine Below.alloc ?_ (by first | exact Nat.le_refl _ | with_reducible exact HB.out.size | omega | (simp; done) | (simp; omega) | (have := HB.out.size; simp at *; omega)) _ | with_reducible refine Below.setCell ?_ (by first | exact Nat.le_refl _ | with_reducible exact HB.out.size | omega | (simp; done) | (simp; omega) | (have := HB.out.size; simp at *; omega)) _)⟩
    · cases b3
      · have HT := Lib.hid (kind_i H1.out (by rw [H2.out, HN.out, H3.out]; rfl))
        rw [HT.out]
        go_enter Try.func70, Try.ntmps70
        go_upto_region 2 with fail
        obtain ⟨w0, ew, b⟩ : ∃ wOPN : World, wOPN = ((w.alloc (Gv.obj ⟨27, s, nx, .slice p n c, .slice ps ns cs, .slice pw nw cw⟩)).alloc (Cv.obj ⟨45, cl⟩)) ∧ Below (((w.alloc (Gv.obj ⟨27, s, nx, .slice p n c, .slice ps ns cs, .slice pw nw cw⟩)).alloc (Cv.obj ⟨45, cl⟩))).heap.size (((w.alloc (Gv.obj ⟨27, s, nx, .slice p n c, .slice ps ns cs, .slice pw nw cw⟩)).alloc (Cv.obj ⟨45, cl⟩))) wOPN := ⟨_, rfl, Below.refl _ _⟩
        rw [← ew]
        clear ew
        have Sw0 := Lib.hid b.size
        have HB := Lib.hid (chain0 (w := w) (by repeat (first | with_reducible exact Below.refl _ _ | with_reducible exact HB.out | with_reducible apply Below.drew | with_reducible apply bdN | with_reducible refine Below.alloc ?_ (by first | exact Nat.le_refl _ | with_reducible exact HB.out.size | omega | (simp; done) | (simp; omega) | (have := HB.out.size; simp at *; omega)) _ | with_reducible refine Below.setCell ?_ (by first | exact Nat.le_refl _ | with_reducible exact HB.out.size | omega | (simp; done) | (simp; omega) | (have := HB.out.size; simp at *; omega)) _)) b)
        have HR := Lib.hid (Rd.below (by repeat (first | with_reducible exact HR.out | with_reducible apply Rd.drewN | with_reducible apply Rd.drew | with_reducible apply Rd.alloc)) b)
        have K2 : Hid (GBox _ (w.heap.size) (⟨27, s, nx, .slice p n c, .slice ps ns cs, .slice pw nw cw⟩)) := Lib.hid (GBox.below (by repeat (first | with_reducible exact K2.out | with_reducible apply GBox.drewN | with_reducible apply GBox.drew | (with_reducible refine GBox.newAt ?_ ?_ <;> first | (simp; done) | rfl) | with_reducible apply GBox.alloc)) b)
        have K3 : Hid (CBox _ (w.heap.size + 1) (⟨45, cl⟩)) := Lib.hid (CBox.below (by repeat (first | with_reducible exact K3.out | with_reducible apply CBox.drewN | with_reducible apply CBox.drew | (with_reducible refine CBox.newAt ?_ ?_ <;> first | (simp; done) | rfl) | with_reducible apply CBox.alloc)) b)
        try clear k2a k2b k2c k2d k2e k2z
        have k2z := K2.out.lt
        obtain ⟨k2a, k2b, k2c, k2d, k2e⟩ := K2.out.cell
        try clear k3a k3b k3c k3d k3z
        have k3z := K3.out.lt
        obtain ⟨k3a, k3b, k3c, k3d⟩ := K3.out.cell
        clear b
        go_wp2_with fail
        refine ((HRi.out _ HR.out)).mono ?_
        rintro e w1 ⟨rfl, b⟩
        have Sw1 := Lib.hid b.size
        have HB := Lib.hid (chain0 (w := w) (by repeat (first | with_reducible exact Below.refl _ _ | with_reducible exact HB.out | with_reducible apply Below.drew | with_reducible apply bdN | with_reducible refine Below.alloc ?_ (by first | exact Nat.le_refl _ | with_reducible exact HB.out.size | omega | (simp; done) | (simp; omega) | (have := HB.out.size; simp at *; omega)) _ | with_reducible refine Below.setCell ?_ (by first | exact Nat.le_refl _ | with_reducible exact HB.out.size | omega | (simp; done) | (simp; omega) | (have := HB.out.size; simp at *; omega)) _)) b)
        have HR := Lib.hid (Rd.below (by repeat (first | with_reducible exact HR.out | with_reducible apply Rd.drewN | with_reducible apply Rd.drew | with_reducible apply Rd.alloc)) b)
        have K2 : Hid (GBox _ (w.heap.size) (⟨27, s, nx, .slice p n c, .slice ps ns cs, .slice pw nw cw⟩)) := Lib.hid (GBox.below (by repeat (first | with_reducible exact K2.out | with_reducible apply GBox.drewN | with_reducible apply GBox.drew | (with_reducible refine GBox.newAt ?_ ?_ <;> first | (simp; done) | rfl) | with_reducible apply GBox.alloc)) b)
        have K3 : Hid (CBox _ (w.heap.size + 1) (⟨45, cl⟩)) := Lib.hid (CBox.below (by repeat (first | with_reducible exact K3.out | with_reducible apply CBox.drewN | with_reducible apply CBox.drew | (with_reducible refine CBox.newAt ?_ ?_ <;> first | (simp; done) | rfl) | with_reducible apply CBox.alloc)) b)
        try clear k2a k2b k2c k2d k2e k2z
        have k2z := K2.out.lt
        obtain ⟨k2a, k2b, k2c, k2d, k2e⟩ := K2.out.cell
        try clear k3a k3b k3c k3d k3z
        have k3z := K3.out.lt
        obtain ⟨k3a, k3b, k3c, k3d⟩ := K3.out.cell
        clear b
        go_wp2_with fail
        refine ((HPl.out _)).mono ?_
        rintro e w2 ⟨rfl, b⟩
        have Sw2 := Lib.hid b.size
        have HB := Lib.hid (chain0 (w := w) (by repeat (first | with_reducible exact Below.refl _ _ | with_reducible exact HB.out | with_reducible apply Below.drew | with_reducible apply bdN | with_reducible refine Below.alloc ?_ (by first | exact Nat.le_refl _ | with_reducible exact HB.out.size | omega | (simp; done) | (simp; omega) | (have := HB.out.size; simp at *; omega)) _ | with_reducible refine Below.setCell ?_ (by first | exact Nat.le_refl _ | with_reducible exact HB.out.size | omega | (simp; done) | (simp; omega) | (have := HB.out.size; simp at *; omega)) _)) b)
        have HR := Lib.hid (Rd.below (by repeat (first | with_reducible exact HR.out | with_reducible apply Rd.drewN | with_reducible apply Rd.drew | with_reducible apply Rd.alloc)) b)
        have K2 : Hid (GBox _ (w.heap.size) (⟨27, s, nx, .slice p n c, .slice ps ns cs, .slice pw nw cw⟩)) := Lib.hid (GBox.below (by repeat (first | with_reducible exact K2.out | with_reducible apply GBox.drewN | with_reducible apply GBox.drew | (with_reducible refine GBox.newAt ?_ ?_ <;> first | (simp; done) | rfl) | with_reducible apply GBox.alloc)) b)
        have K3 : Hid (CBox _ (w.heap.size + 1) (⟨45, cl⟩)) := Lib.hid (CBox.below (by repeat (first | with_reducible exact K3.out | with_reducible apply CBox.drewN | with_reducible apply CBox.drew | (with_reducible refine CBox.newAt ?_ ?_ <;> first | (simp; done) | rfl) | with_reducible apply CBox.alloc)) b)
        try clear k2a k2b k2c k2d k2e k2z
        have k2z := K2.out.lt
        obtain ⟨k2a, k2b, k2c, k2d, k2e⟩ := K2.out.cell
        try clear k3a k3b k3c k3d k3z
        have k3z := K3.out.lt
        obtain ⟨k3a, k3b, k3c, k3d⟩ := K3.out.cell
        clear b
        go_wp2_with fail
        refine ((HOt.out _)).mono ?_
        rintro e w3 ⟨rfl, b⟩
        have Sw3 := Lib.hid b.size
        have HB := Lib.hid (chain0 (w := w) (by repeat (first | with_reducible exact Below.refl _ _ | with_reducible exact HB.out | with_reducible apply Below.drew | with_reducible apply bdN | with_reducible refine Below.alloc ?_ (by first | exact Nat.le_refl _ | with_reducible exact HB.out.size | omega | (simp; done) | (simp; omega) | (have := HB.out.size; simp at *; omega)) _ | with_reducible refine Below.setCell ?_ (by first | exact Nat.le_refl _ | with_reducible exact HB.out.size | omega | (simp; done) | (simp; omega) | (have := HB.out.size; simp at *; omega)) _)) b)
        have HR := Lib.hid (Rd.below (by repeat (first | with_reducible exact HR.out | with_reducible apply Rd.drewN | with_reducible apply Rd.drew | with_reducible apply Rd.alloc)) b)
        have K2 : Hid (GBox _ (w.heap.size) (⟨27, s, nx, .slice p n c, .slice ps ns cs, .slice pw nw cw⟩)) := Lib.hid (GBox.below (by repeat (first | with_reducible exact K2.out | with_reducible apply GBox.drewN | with_reducible apply GBox.drew | (with_reducible refine GBox.newAt ?_ ?_ <;> first | (simp; done) | rfl) | with_reducible apply GBox.alloc)) b)
        have K3 : Hid (CBox _ (w.heap.size + 1) (⟨45, cl⟩)) := Lib.hid (CBox.below (by repeat (first | with_reducible exact K3.out | with_reducible apply CBox.drewN | with_reducible apply CBox.drew | (with_reducible refine CBox.newAt ?_ ?_ <;> first | (simp; done) | rfl) | with_reducible apply CBox.alloc)) b)
        try clear k2a k2b k2c k2d k2e k2z
        have k2z := K2.out.lt
        obtain ⟨k2a, k2b, k2c, k2d, k2e⟩ := K2.out.cell
        try clear k3a k3b k3c k3d k3z
        have k3z := K3.out.lt
        obtain ⟨k3a, k3b, k3c, k3d⟩ := K3.out.cell
        clear b
        go_wp2_with fail
        go_ret
        exact ⟨rfl, by repeat (first | with_reducible exact Below.refl _ _ | with_reducible exact HB.out | with_reducible apply Below.drew | with_reducible apply bdN | with_reducible refine Below.alloc ?_ (by first | exact Nat.le_refl _ | with_reducible exact HB.out.size | omega | (simp; done) | (simp; omega) | (have := HB.out.size; simp at *; omega)) _ | with_reducible refine Below.setCell ?_ (by first | exact Nat.le_refl _ | with_reducible exact HB.out.size | omega | (simp; done) | (simp; omega) | (have := HB.out.size; simp at *; omega)) _)⟩
      · have HT := Lib.hid (kind_w H1.out H2.out (by rw [HN.out]; exact H3.out))
        rw [HT.out]
        go_enter Try.func70, Try.ntmps70
        go_upto_region 2 with fail
        obtain ⟨w0, ew, b⟩ : ∃ wOPN : World, wOPN = ((w.alloc (Gv.obj ⟨27, s, nx, .slice p n c, .slice ps ns cs, .slice pw nw cw⟩)).alloc (Cv.obj ⟨45, cl⟩)) ∧ Below (((w.alloc (Gv.obj ⟨27, s, nx, .slice p n c, .slice ps ns cs, .slice pw nw cw⟩)).alloc (Cv.obj ⟨45, cl⟩))).heap.size (((w.alloc (Gv.obj ⟨27, s, nx, .slice p n c, .slice ps ns cs, .slice pw nw cw⟩)).alloc (Cv.obj ⟨45, cl⟩))) wOPN := ⟨_, rfl, Below.refl _ _⟩
        rw [← ew]
        clear ew
        have Sw0 := Lib.hid b.size
        have HB := Lib.hid (chain0 (w := w) (by repeat (first | with_reducible exact Below.refl _ _ | with_reducible exact HB.out | with_reducible apply Below.drew | with_reducible apply bdN | with_reducible refine Below.alloc ?_ (by first | exact Nat.le_refl _ | with_reducible exact HB.out.size | omega | (simp; done) | (simp; omega) | (have := HB.out.size; simp at *; omega)) _ | with_reducible refine Below.setCell ?_ (by first | exact Nat.le_refl _ | with_reducible exact HB.out.size | omega | (simp; done) | (simp; omega) | (have := HB.out.size; simp at *; omega)) _)) b)
        have HR := Lib.hid (Rd.below (by repeat (first | with_reducible exact HR.out | with_reducible apply Rd.drewN | with_reducible apply Rd.drew | with_reducible apply Rd.alloc)) b)
        have K2 : Hid (GBox _ (w.heap.size) (⟨27, s, nx, .slice p n c, .slice ps ns cs, .slice pw nw cw⟩)) := Lib.hid (GBox.below (by repeat (first | with_reducible exact K2.out | with_reducible apply GBox.drewN | with_reducible apply GBox.drew | (with_reducible refine GBox.newAt ?_ ?_ <;> first | (simp; done) | rfl) | with_reducible apply GBox.alloc)) b)
        have K3 : Hid (CBox _ (w.heap.size + 1) (⟨45, cl⟩)) := Lib.hid (CBox.below (by repeat (first | with_reducible exact K3.out | with_reducible apply CBox.drewN | with_reducible apply CBox.drew | (with_reducible refine CBox.newAt ?_ ?_ <;> first | (simp; done) | rfl) | with_reducible apply CBox.alloc)) b)
        try clear k2a k2b k2c k2d k2e k2z
        have k2z := K2.out.lt
        obtain ⟨k2a, k2b, k2c, k2d, k2e⟩ := K2.out.cell
        try clear k3a k3b k3c k3d k3z
        have k3z := K3.out.lt
        obtain ⟨k3a, k3b, k3c, k3d⟩ := K3.out.cell
        clear b
        go_wp2_with fail
        refine ((HRi.out _ HR.out)).mono ?_
        rintro e w1 ⟨rfl, b⟩
        have Sw1 := Lib.hid b.size
        have HB := Lib.hid (chain0 (w := w) (by repeat (first | with_reducible exact Below.refl _ _ | with_reducible exact HB.out | with_reducible apply Below.drew | with_reducible apply bdN | with_reducible refine Below.alloc ?_ (by first | exact Nat.le_refl _ | with_reducible exact HB.out.size | omega | (simp; done) | (simp; omega) | (have := HB.out.size; simp at *; omega)) _ | with_reducible refine Below.setCell ?_ (by first | exact Nat.le_refl _ | with_reducible exact HB.out.size | omega | (simp; done) | (simp; omega) | (have := HB.out.size; simp at *; omega)) _)) b)
        have HR := Lib.hid (Rd.below (by repeat (first | with_reducible exact HR.out | with_reducible apply Rd.drewN | with_reducible apply Rd.drew | with_reducible apply Rd.alloc)) b)
        have K2 : Hid (GBox _ (w.heap.size) (⟨27, s, nx, .slice p n c, .slice ps ns cs, .slice pw nw cw⟩)) := Lib.hid (GBox.below (by repeat (first | with_reducible exact K2.out | with_reducible apply GBox.drewN | with_reducible apply GBox.drew | (with_reducible refine GBox.newAt ?_ ?_ <;> first | (simp; done) | rfl) | with_reducible apply GBox.alloc)) b)
        have K3 : Hid (CBox _ (w.heap.size + 1) (⟨45, cl⟩)) := Lib.hid (CBox.below (by repeat (first | with_reducible exact K3.out | with_reducible apply CBox.drewN | with_reducible apply CBox.drew | (with_reducible refine CBox.newAt ?_ ?_ <;> first | (simp; done) | rfl) | with_reducible apply CBox.alloc)) b)
        try clear k2a k2b k2c k2d k2e k2z
        have k2z := K2.out.lt
        obtain ⟨k2a, k2b, k2c, k2d, k2e⟩ := K2.out.cell
        try clear k3a k3b k3c k3d k3z
        have k3z := K3.out.lt
        obtain ⟨k3a, k3b, k3c, k3d⟩ := K3.out.cell
        clear b
        go_wp2_with fail
        refine ((HPl.out _)).mono ?_
        rintro e w2 ⟨rfl, b⟩
        have Sw2 := Lib.hid b.size
        have HB := Lib.hid (chain0 (w := w) (by repeat (first | with_reducible exact Below.refl _ _ | with_reducible exact HB.out | with_reducible apply Below.drew | with_reducible apply bdN | with_reducible refine Below.alloc ?_ (by first | exact Nat.le_refl _ | with_reducible exact HB.out.size | omega | (simp; done) | (simp; omega) | (have := HB.out.size; simp at *; omega)) _ | with_reducible refine Below.setCell ?_ (by first | exact Nat.le_refl _ | with_reducible exact HB.out.size | omega | (simp; done) | (simp; omega) | (have := HB.out.size; simp at *; omega)) _)) b)
        have HR := Lib.hid (Rd.below (by repeat (first | with_reducible exact HR.out | with_reducible apply Rd.drewN | with_reducible apply Rd.drew | with_reducible apply Rd.alloc)) b)
        have K2 : Hid (GBox _ (w.heap.size) (⟨27, s, nx, .slice p n c, .slice ps ns cs, .slice pw nw cw⟩)) := Lib.hid (GBox.below (by repeat (first | with_reducible exact K2.out | with_reducible apply GBox.drewN | with_reducible apply GBox.drew | (with_reducible refine GBox.newAt ?_ ?_ <;> first | (simp; done) | rfl) | with_reducible apply GBox.alloc)) b)
        have K3 : Hid (CBox _ (w.heap.size + 1) (⟨45, cl⟩)) := Lib.hid (CBox.below (by repeat (first | with_reducible exact K3.out | with_reducible apply CBox.drewN | with_reducible apply CBox.drew | (with_reducible refine CBox.newAt ?_ ?_ <;> first | (simp; done) | rfl) | with_reducible apply CBox.alloc)) b)
        try clear k2a k2b k2c k2d k2e k2z
        have k2z := K2.out.lt
        obtain ⟨k2a, k2b, k2c, k2d, k2e⟩ := K2.out.cell
        try clear k3a k3b k3c k3d k3z
        have k3z := K3.out.lt
        obtain ⟨k3a, k3b, k3c, k3d⟩ := K3.out.cell
        clear b
        go_wp2_with fail
        refine ((HOt.out _)).mono ?_
        rintro e w3 ⟨rfl, b⟩
        have Sw3 := Lib.hid b.size
        have HB := Lib.hid (chain0 (w := w) (by repeat (first | with_reducible exact Below.refl _ _ | with_reducible exact HB.out | with_reducible apply Below.drew | with_reducible apply bdN | with_reducible refine Below.alloc ?_ (by first | exact Nat.le_refl _ | with_reducible exact HB.out.size | omega | (simp; done) | (simp; omega) | (have := HB.out.size; simp at *; omega)) _ | with_reducible refine Below.setCell ?_ (by first | exact Nat.le_refl _ | with_reducible exact HB.out.size | omega | (simp; done) | (simp; omega) | (have := HB.out.size; simp at *; omega)) _)) b)
        have HR := Lib.hid (Rd.below (by repeat (first | with_reducible exact HR.out | with_reducible apply Rd.drewN | with_reducible apply Rd.drew | with_reducible apply Rd.alloc)) b)
        have K2 : Hid (GBox _ (w.heap.size) (⟨27, s, nx, .slice p n c, .slice ps ns cs, .slice pw nw cw⟩)) := Lib.hid (GBox.below (by repeat (first | with_reducible exact K2.out | with_reducible apply GBox.drewN | with_reducible apply GBox.drew | (with_reducible refine GBox.newAt ?_ ?_ <;> first | (simp; done) | rfl) | with_reducible apply GBox.alloc)) b)
        have K3 : Hid (CBox _ (w.heap.size + 1) (⟨45, cl⟩)) := Lib.hid (CBox.below (by repeat (first | with_reducible exact K3.out | with_reducible apply CBox.drewN | with_reducible apply CBox.drew | (with_reducible refine CBox.newAt ?_ ?_ <;> first | (simp; done) | rfl) | with_reducible apply CBox.alloc)) b)
        try clear k2a k2b k2c k2d k2e k2z
        have k2z := K2.out.lt
        obtain ⟨k2a, k2b, k2c, k2d, k2e⟩ := K2.out.cell
        try clear k3a k3b k3c k3d k3z
        have k3z := K3.out.lt
        obtain ⟨k3a, k3b, k3c, k3d⟩ := K3.out.cell
        clear b
        go_wp2_with fail
        go_ret
        exact ⟨rfl, by repeat (first | with_reducible exact Below.refl _ _ | with_reducible exact HB.out | with_reducible apply Below.drew | with_reducible apply bdN | with_reducible refine Below.alloc ?_ (by first | exact Nat.le_refl _ | with_reducible exact HB.out.size | omega | (simp; done) | (simp; omega) | (have := HB.out.size; simp at *; omega)) _ | with_reducible refine Below.setCell ?_ (by first | exact Nat.le_refl _ | with_reducible exact HB.out.size | omega | (simp; done) | (simp; omega) | (have := HB.out.size; simp at *; omega)) _)⟩
  · have HT := Lib.hid (kind_r H1.out)
    rw [HT.out]
    go_enter Try.func70, Try.ntmps70
    go_upto_region 2 with fail
    obtain ⟨w0, ew, b⟩ : ∃ wOPN : World, wOPN = ((w.alloc (Gv.obj ⟨27, s, nx, .slice p n c, .slice ps ns cs, .slice pw nw cw⟩)).alloc (Cv.obj ⟨45, cl⟩)) ∧ Below (((w.alloc (Gv.obj ⟨27, s, nx, .slice p n c, .slice ps ns cs, .slice pw nw cw⟩)).alloc (Cv.obj ⟨45, cl⟩))).heap.size (((w.alloc (Gv.obj ⟨27, s, nx, .slice p n c, .slice ps ns cs, .slice pw nw cw⟩)).alloc (Cv.obj ⟨45, cl⟩))) wOPN := ⟨_, rfl, Below.refl _ _⟩
    rw [← ew]
    clear ew
    have Sw0 := Lib.hid b.size
    have HB := Lib.hid (chain0 (w := w) (by repeat (first | with_reducible exact Below.refl _ _ | with_reducible exact HB.out | with_reducible apply Below.drew | with_reducible apply bdN | with_reducible refine Below.alloc ?_ (by first | exact Nat.le_refl _ | with_reducible exact HB.out.size | omega | (simp; done) | (simp; omega) | (have := HB.out.size; simp at *; omega)) _ | with_reducible refine Below.setCell ?_ (by first | exact Nat.le_refl _ | with_reducible exact HB.out.size | omega | (simp; done) | (simp; omega) | (have := HB.out.size; simp at *; omega)) _)) b)
    have HR := Lib.hid (Rd.below (by repeat (first | with_reducible exact HR.out | with_reducible apply Rd.drewN | with_reducible apply Rd.drew | with_reducible apply Rd.alloc)) b)
    have K2 : Hid (GBox _ (w.heap.size) (⟨27, s, nx, .slice p n c, .slice ps ns cs, .slice pw nw cw⟩)) := Lib.hid (GBox.below (by repeat (first | with_reducible exact K2.out | with_reducible apply GBox.drewN | with_reducible apply GBox.drew | (with_reducible refine GBox.newAt ?_ ?_ <;> first | (simp; done) | rfl) | with_reducible apply GBox.alloc)) b)
    have K3 : Hid (CBox _ (w.heap.size + 1) (⟨45, cl⟩)) := Lib.hid (CBox.below (by repeat (first | with_reducible exact K3.out | with_reducible apply CBox.drewN | with_reducible apply CBox.drew | (with_reducible refine CBox.newAt ?_ ?_ <;> first | (simp; done) | rfl) | with_reducible apply CBox.alloc)) b)
    try clear k2a k2b k2c k2d k2e k2z
    have k2z := K2.out.lt
    obtain ⟨k2a, k2b, k2c, k2d, k2e⟩ := K2.out.cell
    try clear k3a k3b k3c k3d k3z
    have k3z := K3.out.lt
    obtain ⟨k3a, k3b, k3c, k3d⟩ := K3.out.cell
    clear b
    go_wp2_with fail
    refine ((HRi.out _ HR.out)).mono ?_
    rintro e w1 ⟨rfl, b⟩
    have Sw1 := Lib.hid b.size
    have HB := Lib.hid (chain0 (w := w) (by repeat (first | with_reducible exact Below.refl _ _ | with_reducible exact HB.out | with_reducible apply Below.drew | with_reducible apply bdN | with_reducible refine Below.alloc ?_ (by first | exact Nat.le_refl _ | with_reducible exact HB.out.size | omega | (simp; done) | (simp; omega) | (have := HB.out.size; simp at *; omega)) _ | with_reducible refine Below.setCell ?_ (by first | exact Nat.le_refl _ | with_reducible exact HB.out.size | omega | (simp; done) | (simp; omega) | (have := HB.out.size; simp at *; omega)) _)) b)
    have HR := Lib.hid (Rd.below (by repeat (first | with_reducible exact HR.out | with_reducible apply Rd.drewN | with_reducible apply Rd.drew | with_reducible apply Rd.alloc)) b)
    have K2 : Hid (GBox _ (w.heap.size) (⟨27, s, nx, .slice p n c, .slice ps ns cs, .slice pw nw cw⟩)) := Lib.hid (GBox.below (by repeat (first | with_reducible exact K2.out | with_reducible apply GBox.drewN | with_reducible apply GBox.drew | (with_reducible refine GBox.newAt ?_ ?_ <;> first | (simp; done) | rfl) | with_reducible apply GBox.alloc)) b)
    have K3 : Hid (CBox _ (w.heap.size + 1) (⟨45, cl⟩)) := Lib.hid (CBox.below (by repeat (first | with_reducible exact K3.out | with_reducible apply CBox.drewN | with_reducible apply CBox.drew | (with_reducible refine CBox.newAt ?_ ?_ <;> first | (simp; done) | rfl) | with_reducible apply CBox.alloc)) b)
    try clear k2a k2b k2c k2d k2e k2z
    have k2z := K2.out.lt
    obtain ⟨k2a, k2b, k2c, k2d, k2e⟩ := K2.out.cell
    try clear k3a k3b k3c k3d k3z
    have k3z := K3.out.lt
    obtain ⟨k3a, k3b, k3c, k3d⟩ := K3.out.cell
    clear b
    go_wp2_with fail
    go_ret
    exact ⟨rfl, by repeat (first | with_reducible exact Below.refl _ _ | with_reducible exact HB.out | with_reducible apply Below.drew | with_reducible apply bdN | with_reducible refine Below.alloc ?_ (by first | exact Nat.le_refl _ | with_reducible exact HB.out.size | omega | (simp; done) | (simp; omega) | (have := HB.out.size; simp at *; omega)) _ | with_reducible refine Below.setCell ?_ (by first | exact Nat.le_refl _ | with_reducible exact HB.out.size | omega | (simp; done) | (simp; omega) | (have := HB.out.size; simp at *; omega)) _)⟩

/-! The model. -/
theorem right_p {l : List Cd} {ns : Nat} {c : Cd} (h : isP ns c.a = true) : rightB l ns c = has3 (lines l) (plc c) := by unfold rightB; rw [h]; rfl
theorem right_np {l : List Cd} {ns : Nat} {c : Cd} (h : isP ns c.a = false) : rightB l ns c = false := by unfold rightB; rw [h]; rfl

set_option maxRecDepth 100000 in
set_option maxHeartbeats 8000000 in
theorem l8_kind (s nx : Int) (l : List Cd) (cl : Cd) (p ps pw : Option Addr) (n c ns cs nw cw : Nat) (w : World) (hn : l.length = n) (hl : n ≤ 81) (hns : ns ≤ 1000) (hr : Rd w p (flat l)) (hok : l.all Cd.ok = true) (hd : l.Nodup) (hw : wfc cl) :
    Calls Try.prog 68 #[gval s nx (.slice p n c) (.slice ps ns cs) (.slice pw nw cw), cl.val] w fun e w' => e = .returned (.int .i64 (kind l ns cl)) ∧ Below w.heap.size w w' := by
  have HR := Lib.hid hr
  have HN := Lib.hid hn
  have HPl := Lib.hid (fun w => l1_in cl.a 0 ((ns : Int) - 1) w)
  have HPe : Hid (decide (0 ≤ cl.a ∧ cl.a ≤ (ns : Int) - 1) = isP ns cl.a) := Lib.hid (by unfold isP; rw [Bool.eq_iff_iff, decide_eq_true_eq, decide_eq_true_eq]; omega)
  rw [HPe.out] at HPl
  have hwr : IntKind.i64.wrap ((ns : Int) - 1) = (ns : Int) - 1 := IntWalk.i64_in _ (by omega)
  have hwn : IntKind.i64.wrap ((n : Int) - 1) = (n : Int) - 1 := IntWalk.i64_in _ (by omega)
  have HLi := Lib.hid (fun w h => l4_line s nx l (plc cl) p n c w hn hl h hok hd ⟨hw.2.1, hw.2.2.1, hw.2.2.2⟩)
  obtain ⟨b2, hb2⟩ : ∃ b2, isP ns cl.a = b2 := ⟨_, rfl⟩
  rw [hb2] at HPl
  have H2 := Lib.hid hb2
  obtain ⟨b1, hb1⟩ : ∃ b1, has3 (lines l) (plc cl) = b1 := ⟨_, rfl⟩
  rw [hb1] at HLi
  have H1 := Lib.hid hb1
  have K3 : Hid (CBox ((w.alloc (Gv.obj ⟨27, s, nx, .slice p n c, .slice ps ns cs, .slice pw nw cw⟩)).alloc (Cv.obj ⟨45, cl⟩)) (w.heap.size + 1) ⟨45, cl⟩) := Lib.hid (CBox.newAt (by simp) rfl)
  clear hr hn hok hd hw hb1 hb2
  cases b2
  · have HT := Lib.hid (kind_i (l := l) (right_np H2.out) (by rw [H2.out]; rfl))
    rw [HT.out]
    go_enter Try.func68, Try.ntmps68
    go_upto_region 1 with fail
    obtain ⟨w0, ew, b⟩ : ∃ wOPN : World, wOPN = ((w.alloc (Gv.obj ⟨27, s, nx, .slice p n c, .slice ps ns cs, .slice pw nw cw⟩)).alloc (Cv.obj ⟨45, cl⟩)) ∧ Below (((w.alloc (Gv.obj ⟨27, s, nx, .slice p n c, .slice ps ns cs, .slice pw nw cw⟩)).alloc (Cv.obj ⟨45, cl⟩))).heap.size (((w.alloc (Gv.obj ⟨27, s, nx, .slice p n c, .slice ps ns cs, .slice pw nw cw⟩)).alloc (Cv.obj ⟨45, cl⟩))) wOPN := ⟨_, rfl, Below.refl _ _⟩
    rw [← ew]
    clear ew
    have Sw0 := Lib.hid b.size
    have HB := Lib.hid (chain0 (w := w) (by repeat (first | with_reducible exact Below.refl _ _ | with_reducible exact HB.out | with_reducible apply Below.drew | with_reducible apply bdN | with_reducible refine Below.alloc ?_ (by first | exact Nat.le_refl _ | with_reducible exact HB.out.size | omega | (simp; done) | (simp; omega) | (have := HB.out.size; simp at *; omega)) _ | with_reducible refine Below.setCell ?_ (by first | exact Nat.le_refl _ | with_reducible exact HB.out.size | omega | (simp; done) | (simp; omega) | (have := HB.out.size; simp at *; omega)) _)) b)
    have HR := Lib.hid (Rd.below (by repeat (first | with_reducible exact HR.out | with_reducible apply Rd.drewN | with_reducible apply Rd.drew | with_reducible apply Rd.alloc)) b)
    have K2 : Hid (GBox _ (w.heap.size) (⟨27, s, nx, .slice p n c, .slice ps ns cs, .slice pw nw cw⟩)) := Lib.hid (GBox.below (by repeat (first | with_reducible exact K2.out | with_reducible apply GBox.drewN | with_reducible apply GBox.drew | (with_reducible refine GBox.newAt ?_ ?_ <;> first | (simp; done) | rfl) | with_reducible apply GBox.alloc)) b)
    have K3 : Hid (CBox _ (w.heap.size + 1) (⟨45, cl⟩)) := Lib.hid (CBox.below (by repeat (first | with_reducible exact K3.out | with_reducible apply CBox.drewN | with_reducible apply CBox.drew | (with_reducible refine CBox.newAt ?_ ?_ <;> first | (simp; done) | rfl) | with_reducible apply CBox.alloc)) b)
    try clear k2a k2b k2c k2d k2e k2z
    have k2z := K2.out.lt
    obtain ⟨k2a, k2b, k2c, k2d, k2e⟩ := K2.out.cell
    try clear k3a k3b k3c k3d k3z
    have k3z := K3.out.lt
    obtain ⟨k3a, k3b, k3c, k3d⟩ := K3.out.cell
    clear b
    go_wp2_with fail
    refine ((HPl.out _)).mono ?_
    rintro e w1 ⟨rfl, b⟩
    have Sw1 := Lib.hid b.size
    have HB := Lib.hid (chain0 (w := w) (by repeat (first | with_reducible exact Below.refl _ _ | with_reducible exact HB.out | with_reducible apply Below.drew | with_reducible apply bdN | with_reducible refine Below.alloc ?_ (by first | exact Nat.le_refl _ | with_reducible exact HB.out.size | omega | (simp; done) | (simp; omega) | (have := HB.out.size; simp at *; omega)) _ | with_reducible refine Below.setCell ?_ (by first | exact Nat.le_refl _ | with_reducible exact HB.out.size | omega | (simp; done) | (simp; omega) | (have := HB.out.size; simp at *; omega)) _)) b)
    have HR := Lib.hid (Rd.below (by repeat (first | with_reducible exact HR.out | with_reducible apply Rd.drewN | with_reducible apply Rd.drew | with_reducible apply Rd.alloc)) b)
    have K2 : Hid (GBox _ (w.heap.size) (⟨27, s, nx, .slice p n c, .slice ps ns cs, .slice pw nw cw⟩)) := Lib.hid (GBox.below (by repeat (first | with_reducible exact K2.out | with_reducible apply GBox.drewN | with_reducible apply GBox.drew | (with_reducible refine GBox.newAt ?_ ?_ <;> first | (simp; done) | rfl) | with_reducible apply GBox.alloc)) b)
    have K3 : Hid (CBox _ (w.heap.size + 1) (⟨45, cl⟩)) := Lib.hid (CBox.below (by repeat (first | with_reducible exact K3.out | with_reducible apply CBox.drewN | with_reducible apply CBox.drew | (with_reducible refine CBox.newAt ?_ ?_ <;> first | (simp; done) | rfl) | with_reducible apply CBox.alloc)) b)
    try clear k2a k2b k2c k2d k2e k2z
    have k2z := K2.out.lt
    obtain ⟨k2a, k2b, k2c, k2d, k2e⟩ := K2.out.cell
    try clear k3a k3b k3c k3d k3z
    have k3z := K3.out.lt
    obtain ⟨k3a, k3b, k3c, k3d⟩ := K3.out.cell
    clear b
    go_wp2_with fail
    go_ret
    exact ⟨rfl, by repeat (first | with_reducible exact Below.refl _ _ | with_reducible exact HB.out | with_reducible apply Below.drew | with_reducible apply bdN | with_reducible refine Below.alloc ?_ (by first | exact Nat.le_refl _ | with_reducible exact HB.out.size | omega | (simp; done) | (simp; omega) | (have := HB.out.size; simp at *; omega)) _ | with_reducible refine Below.setCell ?_ (by first | exact Nat.le_refl _ | with_reducible exact HB.out.size | omega | (simp; done) | (simp; omega) | (have := HB.out.size; simp at *; omega)) _)⟩
  · cases b1
    · have HRn := Lib.hid ((right_p (l := l) H2.out).trans H1.out)
      by_cases hi0 : 0 ≤ cl.b ∧ cl.b ≤ (n : Int) - 1
      · by_cases hi1 : 0 ≤ cl.c ∧ cl.c ≤ (n : Int) - 1
        · by_cases ho1 : cl.b < cl.c
          · by_cases hi2 : 0 ≤ cl.d ∧ cl.d ≤ (n : Int) - 1
            · by_cases ho2 : cl.c < cl.d
              · skip
                have HC0 := Lib.hid (show ∀ w, Calls Try.prog 54 #[.int .i64 cl.b, .int .i64 0, .int .i64 ((n : Int) - 1)] w fun e w' => e = .returned (.bool true) ∧ Below w.heap.size w w' from fun w => by have h := l1_in cl.b 0 ((n : Int) - 1) w; rwa [decide_eq_true hi0] at h)
                have HC1 := Lib.hid (show ∀ w, Calls Try.prog 54 #[.int .i64 cl.c, .int .i64 0, .int .i64 ((n : Int) - 1)] w fun e w' => e = .returned (.bool true) ∧ Below w.heap.size w w' from fun w => by have h := l1_in cl.c 0 ((n : Int) - 1) w; rwa [decide_eq_true hi1] at h)
                have HC2 := Lib.hid (show ∀ w, Calls Try.prog 54 #[.int .i64 cl.d, .int .i64 0, .int .i64 ((n : Int) - 1)] w fun e w' => e = .returned (.bool true) ∧ Below w.heap.size w w' from fun w => by have h := l1_in cl.d 0 ((n : Int) - 1) w; rwa [decide_eq_true hi2] at h)
                have HT := Lib.hid (kind_w (l := l) HRn.out H2.out (by unfold onT plc; rw [HN.out]; exact decide_eq_true (by simp only; omega)))
                rw [HT.out]
                go_enter Try.func68, Try.ntmps68
                go_upto_region 1 with fail
                obtain ⟨w0, ew, b⟩ : ∃ wOPN : World, wOPN = ((w.alloc (Gv.obj ⟨27, s, nx, .slice p n c, .slice ps ns cs, .slice pw nw cw⟩)).alloc (Cv.obj ⟨45, cl⟩)) ∧ Below (((w.alloc (Gv.obj ⟨27, s, nx, .slice p n c, .slice ps ns cs, .slice pw nw cw⟩)).alloc (Cv.obj ⟨45, cl⟩))).heap.size (((w.alloc (Gv.obj ⟨27, s, nx, .slice p n c, .slice ps ns cs, .slice pw nw cw⟩)).alloc (Cv.obj ⟨45, cl⟩))) wOPN := ⟨_, rfl, Below.refl _ _⟩
                rw [← ew]
                clear ew
                have Sw0 := Lib.hid b.size
                have HB := Lib.hid (chain0 (w := w) (by repeat (first | with_reducible exact Below.refl _ _ | with_reducible exact HB.out | with_reducible apply Below.drew | with_reducible apply bdN | with_reducible refine Below.alloc ?_ (by first | exact Nat.le_refl _ | with_reducible exact HB.out.size | omega | (simp; done) | (simp; omega) | (have := HB.out.size; simp at *; omega)) _ | with_reducible refine Below.setCell ?_ (by first | exact Nat.le_refl _ | with_reducible exact HB.out.size | omega | (simp; done) | (simp; omega) | (have := HB.out.size; simp at *; omega)) _)) b)
                have HR := Lib.hid (Rd.below (by repeat (first | with_reducible exact HR.out | with_reducible apply Rd.drewN | with_reducible apply Rd.drew | with_reducible apply Rd.alloc)) b)
                have K2 : Hid (GBox _ (w.heap.size) (⟨27, s, nx, .slice p n c, .slice ps ns cs, .slice pw nw cw⟩)) := Lib.hid (GBox.below (by repeat (first | with_reducible exact K2.out | with_reducible apply GBox.drewN | with_reducible apply GBox.drew | (with_reducible refine GBox.newAt ?_ ?_ <;> first | (simp; done) | rfl) | with_reducible apply GBox.alloc)) b)
                have K3 : Hid (CBox _ (w.heap.size + 1) (⟨45, cl⟩)) := Lib.hid (CBox.below (by repeat (first | with_reducible exact K3.out | with_reducible apply CBox.drewN | with_reducible apply CBox.drew | (with_reducible refine CBox.newAt ?_ ?_ <;> first | (simp; done) | rfl) | with_reducible apply CBox.alloc)) b)
                try clear k2a k2b k2c k2d k2e k2z
                have k2z := K2.out.lt
                obtain ⟨k2a, k2b, k2c, k2d, k2e⟩ := K2.out.cell
                try clear k3a k3b k3c k3d k3z
                have k3z := K3.out.lt
                obtain ⟨k3a, k3b, k3c, k3d⟩ := K3.out.cell
                clear b
                go_wp2_with fail
                refine ((HPl.out _)).mono ?_
                rintro e w1 ⟨rfl, b⟩
                have Sw1 := Lib.hid b.size
                have HB := Lib.hid (chain0 (w := w) (by repeat (first | with_reducible exact Below.refl _ _ | with_reducible exact HB.out | with_reducible apply Below.drew | with_reducible apply bdN | with_reducible refine Below.alloc ?_ (by first | exact Nat.le_refl _ | with_reducible exact HB.out.size | omega | (simp; done) | (simp; omega) | (have := HB.out.size; simp at *; omega)) _ | with_reducible refine Below.setCell ?_ (by first | exact Nat.le_refl _ | with_reducible exact HB.out.size | omega | (simp; done) | (simp; omega) | (have := HB.out.size; simp at *; omega)) _)) b)
                have HR := Lib.hid (Rd.below (by repeat (first | with_reducible exact HR.out | with_reducible apply Rd.drewN | with_reducible apply Rd.drew | with_reducible apply Rd.alloc)) b)
                have K2 : Hid (GBox _ (w.heap.size) (⟨27, s, nx, .slice p n c, .slice ps ns cs, .slice pw nw cw⟩)) := Lib.hid (GBox.below (by repeat (first | with_reducible exact K2.out | with_reducible apply GBox.drewN | with_reducible apply GBox.drew | (with_reducible refine GBox.newAt ?_ ?_ <;> first | (simp; done) | rfl) | with_reducible apply GBox.alloc)) b)
                have K3 : Hid (CBox _ (w.heap.size + 1) (⟨45, cl⟩)) := Lib.hid (CBox.below (by repeat (first | with_reducible exact K3.out | with_reducible apply CBox.drewN | with_reducible apply CBox.drew | (with_reducible refine CBox.newAt ?_ ?_ <;> first | (simp; done) | rfl) | with_reducible apply CBox.alloc)) b)
                try clear k2a k2b k2c k2d k2e k2z
                have k2z := K2.out.lt
                obtain ⟨k2a, k2b, k2c, k2d, k2e⟩ := K2.out.cell
                try clear k3a k3b k3c k3d k3z
                have k3z := K3.out.lt
                obtain ⟨k3a, k3b, k3c, k3d⟩ := K3.out.cell
                clear b
                go_wp2_with fail
                refine ((HLi.out _ HR.out)).mono ?_
                rintro e w2 ⟨rfl, b⟩
                have Sw2 := Lib.hid b.size
                have HB := Lib.hid (chain0 (w := w) (by repeat (first | with_reducible exact Below.refl _ _ | with_reducible exact HB.out | with_reducible apply Below.drew | with_reducible apply bdN | with_reducible refine Below.alloc ?_ (by first | exact Nat.le_refl _ | with_reducible exact HB.out.size | omega | (simp; done) | (simp; omega) | (have := HB.out.size; simp at *; omega)) _ | with_reducible refine Below.setCell ?_ (by first | exact Nat.le_refl _ | with_reducible exact HB.out.size | omega | (simp; done) | (simp; omega) | (have := HB.out.size; simp at *; omega)) _)) b)
                have HR := Lib.hid (Rd.below (by repeat (first | with_reducible exact HR.out | with_reducible apply Rd.drewN | with_reducible apply Rd.drew | with_reducible apply Rd.alloc)) b)
                have K2 : Hid (GBox _ (w.heap.size) (⟨27, s, nx, .slice p n c, .slice ps ns cs, .slice pw nw cw⟩)) := Lib.hid (GBox.below (by repeat (first | with_reducible exact K2.out | with_reducible apply GBox.drewN | with_reducible apply GBox.drew | (with_reducible refine GBox.newAt ?_ ?_ <;> first | (simp; done) | rfl) | with_reducible apply GBox.alloc)) b)
                have K3 : Hid (CBox _ (w.heap.size + 1) (⟨45, cl⟩)) := Lib.hid (CBox.below (by repeat (first | with_reducible exact K3.out | with_reducible apply CBox.drewN | with_reducible apply CBox.drew | (with_reducible refine CBox.newAt ?_ ?_ <;> first | (simp; done) | rfl) | with_reducible apply CBox.alloc)) b)
                try clear k2a k2b k2c k2d k2e k2z
                have k2z := K2.out.lt
                obtain ⟨k2a, k2b, k2c, k2d, k2e⟩ := K2.out.cell
                try clear k3a k3b k3c k3d k3z
                have k3z := K3.out.lt
                obtain ⟨k3a, k3b, k3c, k3d⟩ := K3.out.cell
                clear b
                go_wp2_with fail
                refine wp_loop_rounds 4 ?_
                rw [rounds_succ]
                go_wp2_with fail
                have qk2a := fun d os => cell_regrown k2a d os
                have qk2b := fun d os => cell_regrown k2b d os
                have qk2c := fun d os => cell_regrown k2c d os
                have qk2d := fun d os => cell_regrown k2d d os
                have qk2e := fun d os => cell_regrown k2e d os
                have qk3a := fun d os => cell_regrown k3a d os
                have qk3b := fun d os => cell_regrown k3b d os
                have qk3c := fun d os => cell_regrown k3c d os
                have qk3d := fun d os => cell_regrown k3d d os
                refine wp_region_quiet_below (by kernel_rfl) (by kernel_rfl) ?_
                repeat (first | go_big_quiet_step ((go_at_call 54; first | with_reducible exact Calls.regrown_of (HC0.out _))) | quiet_step ((go_at_call 54; first | with_reducible exact Calls.regrown_of (HC0.out _))))
                refine wpQuiet_nil ?_
                intro v0 hw2
                have b : Below w2.heap.size w2 v0 := by obtain ⟨r, hr⟩ := hw2; rw [hr]; exact below_regrown _ _ _
                clear hw2 qk2a qk2b qk2c qk3a qk3b qk3c
                have Sv0 := Lib.hid b.size
                have HB := Lib.hid (chain0 (w := w) (by repeat (first | with_reducible exact Below.refl _ _ | with_reducible exact HB.out | with_reducible apply Below.drew | with_reducible apply bdN | with_reducible refine Below.alloc ?_ (by first | exact Nat.le_refl _ | with_reducible exact HB.out.size | omega | (simp; done) | (simp; omega) | (have := HB.out.size; simp at *; omega)) _ | with_reducible refine Below.setCell ?_ (by first | exact Nat.le_refl _ | with_reducible exact HB.out.size | omega | (simp; done) | (simp; omega) | (have := HB.out.size; simp at *; omega)) _)) b)
                have HR := Lib.hid (Rd.below (by repeat (first | with_reducible exact HR.out | with_reducible apply Rd.drewN | with_reducible apply Rd.drew | with_reducible apply Rd.alloc)) b)
                have K2 : Hid (GBox _ (w.heap.size) (⟨27, s, nx, .slice p n c, .slice ps ns cs, .slice pw nw cw⟩)) := Lib.hid (GBox.below (by repeat (first | with_reducible exact K2.out | with_reducible apply GBox.drewN | with_reducible apply GBox.drew | (with_reducible refine GBox.newAt ?_ ?_ <;> first | (simp; done) | rfl) | with_reducible apply GBox.alloc)) b)
                have K3 : Hid (CBox _ (w.heap.size + 1) (⟨45, cl⟩)) := Lib.hid (CBox.below (by repeat (first | with_reducible exact K3.out | with_reducible apply CBox.drewN | with_reducible apply CBox.drew | (with_reducible refine CBox.newAt ?_ ?_ <;> first | (simp; done) | rfl) | with_reducible apply CBox.alloc)) b)
                try clear k2a k2b k2c k2d k2e k2z
                have k2z := K2.out.lt
                obtain ⟨k2a, k2b, k2c, k2d, k2e⟩ := K2.out.cell
                try clear k3a k3b k3c k3d k3z
                have k3z := K3.out.lt
                obtain ⟨k3a, k3b, k3c, k3d⟩ := K3.out.cell
                clear b
                go_wp2_with fail
                rw [rounds_succ]
                go_wp2_with fail
                have qk2a := fun d os => cell_regrown k2a d os
                have qk2b := fun d os => cell_regrown k2b d os
                have qk2c := fun d os => cell_regrown k2c d os
                have qk2d := fun d os => cell_regrown k2d d os
                have qk2e := fun d os => cell_regrown k2e d os
                have qk3a := fun d os => cell_regrown k3a d os
                have qk3b := fun d os => cell_regrown k3b d os
                have qk3c := fun d os => cell_regrown k3c d os
                have qk3d := fun d os => cell_regrown k3d d os
                refine wp_region_quiet_below (by kernel_rfl) (by kernel_rfl) ?_
                repeat (first | go_big_quiet_step ((go_at_call 54; first | with_reducible exact Calls.regrown_of (HC0.out _) | with_reducible exact Calls.regrown_of (HC1.out _))) | quiet_step ((go_at_call 54; first | with_reducible exact Calls.regrown_of (HC0.out _) | with_reducible exact Calls.regrown_of (HC1.out _))))
                refine wpQuiet_nil ?_
                intro v1 hw2
                have b : Below v0.heap.size v0 v1 := by obtain ⟨r, hr⟩ := hw2; rw [hr]; exact below_regrown _ _ _
                clear hw2 qk2a qk2b qk2c qk3a qk3b qk3c
                have Sv1 := Lib.hid b.size
                have HB := Lib.hid (chain0 (w := w) (by repeat (first | with_reducible exact Below.refl _ _ | with_reducible exact HB.out | with_reducible apply Below.drew | with_reducible apply bdN | with_reducible refine Below.alloc ?_ (by first | exact Nat.le_refl _ | with_reducible exact HB.out.size | omega | (simp; done) | (simp; omega) | (have := HB.out.size; simp at *; omega)) _ | with_reducible refine Below.setCell ?_ (by first | exact Nat.le_refl _ | with_reducible exact HB.out.size | omega | (simp; done) | (simp; omega) | (have := HB.out.size; simp at *; omega)) _)) b)
                have HR := Lib.hid (Rd.below (by repeat (first | with_reducible exact HR.out | with_reducible apply Rd.drewN | with_reducible apply Rd.drew | with_reducible apply Rd.alloc)) b)
                have K2 : Hid (GBox _ (w.heap.size) (⟨27, s, nx, .slice p n c, .slice ps ns cs, .slice pw nw cw⟩)) := Lib.hid (GBox.below (by repeat (first | with_reducible exact K2.out | with_reducible apply GBox.drewN | with_reducible apply GBox.drew | (with_reducible refine GBox.newAt ?_ ?_ <;> first | (simp; done) | rfl) | with_reducible apply GBox.alloc)) b)
                have K3 : Hid (CBox _ (w.heap.size + 1) (⟨45, cl⟩)) := Lib.hid (CBox.below (by repeat (first | with_reducible exact K3.out | with_reducible apply CBox.drewN | with_reducible apply CBox.drew | (with_reducible refine CBox.newAt ?_ ?_ <;> first | (simp; done) | rfl) | with_reducible apply CBox.alloc)) b)
                try clear k2a k2b k2c k2d k2e k2z
                have k2z := K2.out.lt
                obtain ⟨k2a, k2b, k2c, k2d, k2e⟩ := K2.out.cell
                try clear k3a k3b k3c k3d k3z
                have k3z := K3.out.lt
                obtain ⟨k3a, k3b, k3c, k3d⟩ := K3.out.cell
                clear b
                go_wp2_with fail
                rw [rounds_succ]
                go_wp2_with fail
                have qk2a := fun d os => cell_regrown k2a d os
                have qk2b := fun d os => cell_regrown k2b d os
                have qk2c := fun d os => cell_regrown k2c d os
                have qk2d := fun d os => cell_regrown k2d d os
                have qk2e := fun d os => cell_regrown k2e d os
                have qk3a := fun d os => cell_regrown k3a d os
                have qk3b := fun d os => cell_regrown k3b d os
                have qk3c := fun d os => cell_regrown k3c d os
                have qk3d := fun d os => cell_regrown k3d d os
                refine wp_region_quiet_below (by kernel_rfl) (by kernel_rfl) ?_
                repeat (first | go_big_quiet_step ((go_at_call 54; first | with_reducible exact Calls.regrown_of (HC0.out _) | with_reducible exact Calls.regrown_of (HC1.out _) | with_reducible exact Calls.regrown_of (HC2.out _))) | quiet_step ((go_at_call 54; first | with_reducible exact Calls.regrown_of (HC0.out _) | with_reducible exact Calls.regrown_of (HC1.out _) | with_reducible exact Calls.regrown_of (HC2.out _))))
                refine wpQuiet_nil ?_
                intro v2 hw2
                have b : Below v1.heap.size v1 v2 := by obtain ⟨r, hr⟩ := hw2; rw [hr]; exact below_regrown _ _ _
                clear hw2 qk2a qk2b qk2c qk3a qk3b qk3c
                have Sv2 := Lib.hid b.size
                have HB := Lib.hid (chain0 (w := w) (by repeat (first | with_reducible exact Below.refl _ _ | with_reducible exact HB.out | with_reducible apply Below.drew | with_reducible apply bdN | with_reducible refine Below.alloc ?_ (by first | exact Nat.le_refl _ | with_reducible exact HB.out.size | omega | (simp; done) | (simp; omega) | (have := HB.out.size; simp at *; omega)) _ | with_reducible refine Below.setCell ?_ (by first | exact Nat.le_refl _ | with_reducible exact HB.out.size | omega | (simp; done) | (simp; omega) | (have := HB.out.size; simp at *; omega)) _)) b)
                have HR := Lib.hid (Rd.below (by repeat (first | with_reducible exact HR.out | with_reducible apply Rd.drewN | with_reducible apply Rd.drew | with_reducible apply Rd.alloc)) b)
                have K2 : Hid (GBox _ (w.heap.size) (⟨27, s, nx, .slice p n c, .slice ps ns cs, .slice pw nw cw⟩)) := Lib.hid (GBox.below (by repeat (first | with_reducible exact K2.out | with_reducible apply GBox.drewN | with_reducible apply GBox.drew | (with_reducible refine GBox.newAt ?_ ?_ <;> first | (simp; done) | rfl) | with_reducible apply GBox.alloc)) b)
                have K3 : Hid (CBox _ (w.heap.size + 1) (⟨45, cl⟩)) := Lib.hid (CBox.below (by repeat (first | with_reducible exact K3.out | with_reducible apply CBox.drewN | with_reducible apply CBox.drew | (with_reducible refine CBox.newAt ?_ ?_ <;> first | (simp; done) | rfl) | with_reducible apply CBox.alloc)) b)
                try clear k2a k2b k2c k2d k2e k2z
                have k2z := K2.out.lt
                obtain ⟨k2a, k2b, k2c, k2d, k2e⟩ := K2.out.cell
                try clear k3a k3b k3c k3d k3z
                have k3z := K3.out.lt
                obtain ⟨k3a, k3b, k3c, k3d⟩ := K3.out.cell
                clear b
                go_wp2_with fail
                rw [rounds_succ]
                go_wp2_with fail
                go_ret
                exact ⟨rfl, by repeat (first | with_reducible exact Below.refl _ _ | with_reducible exact HB.out | with_reducible apply Below.drew | with_reducible apply bdN | with_reducible refine Below.alloc ?_ (by first | exact Nat.le_refl _ | with_reducible exact HB.out.size | omega | (simp; done) | (simp; omega) | (have := HB.out.size; simp at *; omega)) _ | with_reducible refine Below.setCell ?_ (by first | exact Nat.le_refl _ | with_reducible exact HB.out.size | omega | (simp; done) | (simp; omega) | (have := HB.out.size; simp at *; omega)) _)⟩
              · skip
                have HC0 := Lib.hid (show ∀ w, Calls Try.prog 54 #[.int .i64 cl.b, .int .i64 0, .int .i64 ((n : Int) - 1)] w fun e w' => e = .returned (.bool true) ∧ Below w.heap.size w w' from fun w => by have h := l1_in cl.b 0 ((n : Int) - 1) w; rwa [decide_eq_true hi0] at h)
                have HC1 := Lib.hid (show ∀ w, Calls Try.prog 54 #[.int .i64 cl.c, .int .i64 0, .int .i64 ((n : Int) - 1)] w fun e w' => e = .returned (.bool true) ∧ Below w.heap.size w w' from fun w => by have h := l1_in cl.c 0 ((n : Int) - 1) w; rwa [decide_eq_true hi1] at h)
                have HC2 := Lib.hid (show ∀ w, Calls Try.prog 54 #[.int .i64 cl.d, .int .i64 0, .int .i64 ((n : Int) - 1)] w fun e w' => e = .returned (.bool true) ∧ Below w.heap.size w w' from fun w => by have h := l1_in cl.d 0 ((n : Int) - 1) w; rwa [decide_eq_true hi2] at h)
                have HT := Lib.hid (kind_i (l := l) HRn.out (by rw [H2.out]; unfold onT plc; rw [HN.out]; simp only [Bool.true_and]; exact decide_eq_false (by omega)))
                rw [HT.out]
                go_enter Try.func68, Try.ntmps68
                go_upto_region 1 with fail
                obtain ⟨w0, ew, b⟩ : ∃ wOPN : World, wOPN = ((w.alloc (Gv.obj ⟨27, s, nx, .slice p n c, .slice ps ns cs, .slice pw nw cw⟩)).alloc (Cv.obj ⟨45, cl⟩)) ∧ Below (((w.alloc (Gv.obj ⟨27, s, nx, .slice p n c, .slice ps ns cs, .slice pw nw cw⟩)).alloc (Cv.obj ⟨45, cl⟩))).heap.size (((w.alloc (Gv.obj ⟨27, s, nx, .slice p n c, .slice ps ns cs, .slice pw nw cw⟩)).alloc (Cv.obj ⟨45, cl⟩))) wOPN := ⟨_, rfl, Below.refl _ _⟩
                rw [← ew]
                clear ew
                have Sw0 := Lib.hid b.size
                have HB := Lib.hid (chain0 (w := w) (by repeat (first | with_reducible exact Below.refl _ _ | with_reducible exact HB.out | with_reducible apply Below.drew | with_reducible apply bdN | with_reducible refine Below.alloc ?_ (by first | exact Nat.le_refl _ | with_reducible exact HB.out.size | omega | (simp; done) | (simp; omega) | (have := HB.out.size; simp at *; omega)) _ | with_reducible refine Below.setCell ?_ (by first | exact Nat.le_refl _ | with_reducible exact HB.out.size | omega | (simp; done) | (simp; omega) | (have := HB.out.size; simp at *; omega)) _)) b)
                have HR := Lib.hid (Rd.below (by repeat (first | with_reducible exact HR.out | with_reducible apply Rd.drewN | with_reducible apply Rd.drew | with_reducible apply Rd.alloc)) b)
                have K2 : Hid (GBox _ (w.heap.size) (⟨27, s, nx, .slice p n c, .slice ps ns cs, .slice pw nw cw⟩)) := Lib.hid (GBox.below (by repeat (first | with_reducible exact K2.out | with_reducible apply GBox.drewN | with_reducible apply GBox.drew | (with_reducible refine GBox.newAt ?_ ?_ <;> first | (simp; done) | rfl) | with_reducible apply GBox.alloc)) b)
                have K3 : Hid (CBox _ (w.heap.size + 1) (⟨45, cl⟩)) := Lib.hid (CBox.below (by repeat (first | with_reducible exact K3.out | with_reducible apply CBox.drewN | with_reducible apply CBox.drew | (with_reducible refine CBox.newAt ?_ ?_ <;> first | (simp; done) | rfl) | with_reducible apply CBox.alloc)) b)
                try clear k2a k2b k2c k2d k2e k2z
                have k2z := K2.out.lt
                obtain ⟨k2a, k2b, k2c, k2d, k2e⟩ := K2.out.cell
                try clear k3a k3b k3c k3d k3z
                have k3z := K3.out.lt
                obtain ⟨k3a, k3b, k3c, k3d⟩ := K3.out.cell
                clear b
                go_wp2_with fail
                refine ((HPl.out _)).mono ?_
                rintro e w1 ⟨rfl, b⟩
                have Sw1 := Lib.hid b.size
                have HB := Lib.hid (chain0 (w := w) (by repeat (first | with_reducible exact Below.refl _ _ | with_reducible exact HB.out | with_reducible apply Below.drew | with_reducible apply bdN | with_reducible refine Below.alloc ?_ (by first | exact Nat.le_refl _ | with_reducible exact HB.out.size | omega | (simp; done) | (simp; omega) | (have := HB.out.size; simp at *; omega)) _ | with_reducible refine Below.setCell ?_ (by first | exact Nat.le_refl _ | with_reducible exact HB.out.size | omega | (simp; done) | (simp; omega) | (have := HB.out.size; simp at *; omega)) _)) b)
                have HR := Lib.hid (Rd.below (by repeat (first | with_reducible exact HR.out | with_reducible apply Rd.drewN | with_reducible apply Rd.drew | with_reducible apply Rd.alloc)) b)
                have K2 : Hid (GBox _ (w.heap.size) (⟨27, s, nx, .slice p n c, .slice ps ns cs, .slice pw nw cw⟩)) := Lib.hid (GBox.below (by repeat (first | with_reducible exact K2.out | with_reducible apply GBox.drewN | with_reducible apply GBox.drew | (with_reducible refine GBox.newAt ?_ ?_ <;> first | (simp; done) | rfl) | with_reducible apply GBox.alloc)) b)
                have K3 : Hid (CBox _ (w.heap.size + 1) (⟨45, cl⟩)) := Lib.hid (CBox.below (by repeat (first | with_reducible exact K3.out | with_reducible apply CBox.drewN | with_reducible apply CBox.drew | (with_reducible refine CBox.newAt ?_ ?_ <;> first | (simp; done) | rfl) | with_reducible apply CBox.alloc)) b)
                try clear k2a k2b k2c k2d k2e k2z
                have k2z := K2.out.lt
                obtain ⟨k2a, k2b, k2c, k2d, k2e⟩ := K2.out.cell
                try clear k3a k3b k3c k3d k3z
                have k3z := K3.out.lt
                obtain ⟨k3a, k3b, k3c, k3d⟩ := K3.out.cell
                clear b
                go_wp2_with fail
                refine ((HLi.out _ HR.out)).mono ?_
                rintro e w2 ⟨rfl, b⟩
                have Sw2 := Lib.hid b.size
                have HB := Lib.hid (chain0 (w := w) (by repeat (first | with_reducible exact Below.refl _ _ | with_reducible exact HB.out | with_reducible apply Below.drew | with_reducible apply bdN | with_reducible refine Below.alloc ?_ (by first | exact Nat.le_refl _ | with_reducible exact HB.out.size | omega | (simp; done) | (simp; omega) | (have := HB.out.size; simp at *; omega)) _ | with_reducible refine Below.setCell ?_ (by first | exact Nat.le_refl _ | with_reducible exact HB.out.size | omega | (simp; done) | (simp; omega) | (have := HB.out.size; simp at *; omega)) _)) b)
                have HR := Lib.hid (Rd.below (by repeat (first | with_reducible exact HR.out | with_reducible apply Rd.drewN | with_reducible apply Rd.drew | with_reducible apply Rd.alloc)) b)
                have K2 : Hid (GBox _ (w.heap.size) (⟨27, s, nx, .slice p n c, .slice ps ns cs, .slice pw nw cw⟩)) := Lib.hid (GBox.below (by repeat (first | with_reducible exact K2.out | with_reducible apply GBox.drewN | with_reducible apply GBox.drew | (with_reducible refine GBox.newAt ?_ ?_ <;> first | (simp; done) | rfl) | with_reducible apply GBox.alloc)) b)
                have K3 : Hid (CBox _ (w.heap.size + 1) (⟨45, cl⟩)) := Lib.hid (CBox.below (by repeat (first | with_reducible exact K3.out | with_reducible apply CBox.drewN | with_reducible apply CBox.drew | (with_reducible refine CBox.newAt ?_ ?_ <;> first | (simp; done) | rfl) | with_reducible apply CBox.alloc)) b)
                try clear k2a k2b k2c k2d k2e k2z
                have k2z := K2.out.lt
                obtain ⟨k2a, k2b, k2c, k2d, k2e⟩ := K2.out.cell
                try clear k3a k3b k3c k3d k3z
                have k3z := K3.out.lt
                obtain ⟨k3a, k3b, k3c, k3d⟩ := K3.out.cell
                clear b
                go_wp2_with fail
                refine wp_loop_rounds 4 ?_
                rw [rounds_succ]
                go_wp2_with fail
                have qk2a := fun d os => cell_regrown k2a d os
                have qk2b := fun d os => cell_regrown k2b d os
                have qk2c := fun d os => cell_regrown k2c d os
                have qk2d := fun d os => cell_regrown k2d d os
                have qk2e := fun d os => cell_regrown k2e d os
                have qk3a := fun d os => cell_regrown k3a d os
                have qk3b := fun d os => cell_regrown k3b d os
                have qk3c := fun d os => cell_regrown k3c d os
                have qk3d := fun d os => cell_regrown k3d d os
                refine wp_region_quiet_below (by kernel_rfl) (by kernel_rfl) ?_
                repeat (first | go_big_quiet_step ((go_at_call 54; first | with_reducible exact Calls.regrown_of (HC0.out _))) | quiet_step ((go_at_call 54; first | with_reducible exact Calls.regrown_of (HC0.out _))))
                refine wpQuiet_nil ?_
                intro v0 hw2
                have b : Below w2.heap.size w2 v0 := by obtain ⟨r, hr⟩ := hw2; rw [hr]; exact below_regrown _ _ _
                clear hw2 qk2a qk2b qk2c qk3a qk3b qk3c
                have Sv0 := Lib.hid b.size
                have HB := Lib.hid (chain0 (w := w) (by repeat (first | with_reducible exact Below.refl _ _ | with_reducible exact HB.out | with_reducible apply Below.drew | with_reducible apply bdN | with_reducible refine Below.alloc ?_ (by first | exact Nat.le_refl _ | with_reducible exact HB.out.size | omega | (simp; done) | (simp; omega) | (have := HB.out.size; simp at *; omega)) _ | with_reducible refine Below.setCell ?_ (by first | exact Nat.le_refl _ | with_reducible exact HB.out.size | omega | (simp; done) | (simp; omega) | (have := HB.out.size; simp at *; omega)) _)) b)
                have HR := Lib.hid (Rd.below (by repeat (first | with_reducible exact HR.out | with_reducible apply Rd.drewN | with_reducible apply Rd.drew | with_reducible apply Rd.alloc)) b)
                have K2 : Hid (GBox _ (w.heap.size) (⟨27, s, nx, .slice p n c, .slice ps ns cs, .slice pw nw cw⟩)) := Lib.hid (GBox.below (by repeat (first | with_reducible exact K2.out | with_reducible apply GBox.drewN | with_reducible apply GBox.drew | (with_reducible refine GBox.newAt ?_ ?_ <;> first | (simp; done) | rfl) | with_reducible apply GBox.alloc)) b)
                have K3 : Hid (CBox _ (w.heap.size + 1) (⟨45, cl⟩)) := Lib.hid (CBox.below (by repeat (first | with_reducible exact K3.out | with_reducible apply CBox.drewN | with_reducible apply CBox.drew | (with_reducible refine CBox.newAt ?_ ?_ <;> first | (simp; done) | rfl) | with_reducible apply CBox.alloc)) b)
                try clear k2a k2b k2c k2d k2e k2z
                have k2z := K2.out.lt
                obtain ⟨k2a, k2b, k2c, k2d, k2e⟩ := K2.out.cell
                try clear k3a k3b k3c k3d k3z
                have k3z := K3.out.lt
                obtain ⟨k3a, k3b, k3c, k3d⟩ := K3.out.cell
                clear b
                go_wp2_with fail
                rw [rounds_succ]
                go_wp2_with fail
                have qk2a := fun d os => cell_regrown k2a d os
                have qk2b := fun d os => cell_regrown k2b d os
                have qk2c := fun d os => cell_regrown k2c d os
                have qk2d := fun d os => cell_regrown k2d d os
                have qk2e := fun d os => cell_regrown k2e d os
                have qk3a := fun d os => cell_regrown k3a d os
                have qk3b := fun d os => cell_regrown k3b d os
                have qk3c := fun d os => cell_regrown k3c d os
                have qk3d := fun d os => cell_regrown k3d d os
                refine wp_region_quiet_below (by kernel_rfl) (by kernel_rfl) ?_
                repeat (first | go_big_quiet_step ((go_at_call 54; first | with_reducible exact Calls.regrown_of (HC0.out _) | with_reducible exact Calls.regrown_of (HC1.out _))) | quiet_step ((go_at_call 54; first | with_reducible exact Calls.regrown_of (HC0.out _) | with_reducible exact Calls.regrown_of (HC1.out _))))
                refine wpQuiet_nil ?_
                intro v1 hw2
                have b : Below v0.heap.size v0 v1 := by obtain ⟨r, hr⟩ := hw2; rw [hr]; exact below_regrown _ _ _
                clear hw2 qk2a qk2b qk2c qk3a qk3b qk3c
                have Sv1 := Lib.hid b.size
                have HB := Lib.hid (chain0 (w := w) (by repeat (first | with_reducible exact Below.refl _ _ | with_reducible exact HB.out | with_reducible apply Below.drew | with_reducible apply bdN | with_reducible refine Below.alloc ?_ (by first | exact Nat.le_refl _ | with_reducible exact HB.out.size | omega | (simp; done) | (simp; omega) | (have := HB.out.size; simp at *; omega)) _ | with_reducible refine Below.setCell ?_ (by first | exact Nat.le_refl _ | with_reducible exact HB.out.size | omega | (simp; done) | (simp; omega) | (have := HB.out.size; simp at *; omega)) _)) b)
                have HR := Lib.hid (Rd.below (by repeat (first | with_reducible exact HR.out | with_reducible apply Rd.drewN | with_reducible apply Rd.drew | with_reducible apply Rd.alloc)) b)
                have K2 : Hid (GBox _ (w.heap.size) (⟨27, s, nx, .slice p n c, .slice ps ns cs, .slice pw nw cw⟩)) := Lib.hid (GBox.below (by repeat (first | with_reducible exact K2.out | with_reducible apply GBox.drewN | with_reducible apply GBox.drew | (with_reducible refine GBox.newAt ?_ ?_ <;> first | (simp; done) | rfl) | with_reducible apply GBox.alloc)) b)
                have K3 : Hid (CBox _ (w.heap.size + 1) (⟨45, cl⟩)) := Lib.hid (CBox.below (by repeat (first | with_reducible exact K3.out | with_reducible apply CBox.drewN | with_reducible apply CBox.drew | (with_reducible refine CBox.newAt ?_ ?_ <;> first | (simp; done) | rfl) | with_reducible apply CBox.alloc)) b)
                try clear k2a k2b k2c k2d k2e k2z
                have k2z := K2.out.lt
                obtain ⟨k2a, k2b, k2c, k2d, k2e⟩ := K2.out.cell
                try clear k3a k3b k3c k3d k3z
                have k3z := K3.out.lt
                obtain ⟨k3a, k3b, k3c, k3d⟩ := K3.out.cell
                clear b
                go_wp2_with fail
                rw [rounds_succ]
                go_wp2_with fail
                have qk2a := fun d os => cell_regrown k2a d os
                have qk2b := fun d os => cell_regrown k2b d os
                have qk2c := fun d os => cell_regrown k2c d os
                have qk2d := fun d os => cell_regrown k2d d os
                have qk2e := fun d os => cell_regrown k2e d os
                have qk3a := fun d os => cell_regrown k3a d os
                have qk3b := fun d os => cell_regrown k3b d os
                have qk3c := fun d os => cell_regrown k3c d os
                have qk3d := fun d os => cell_regrown k3d d os
                refine wp_region_quiet_below (by kernel_rfl) (by kernel_rfl) ?_
                repeat (first | go_big_quiet_step ((go_at_call 54; first | with_reducible exact Calls.regrown_of (HC0.out _) | with_reducible exact Calls.regrown_of (HC1.out _) | with_reducible exact Calls.regrown_of (HC2.out _))) | quiet_step ((go_at_call 54; first | with_reducible exact Calls.regrown_of (HC0.out _) | with_reducible exact Calls.regrown_of (HC1.out _) | with_reducible exact Calls.regrown_of (HC2.out _))))
                refine wpQuiet_nil ?_
                intro v2 hw2
                have b : Below v1.heap.size v1 v2 := by obtain ⟨r, hr⟩ := hw2; rw [hr]; exact below_regrown _ _ _
                clear hw2 qk2a qk2b qk2c qk3a qk3b qk3c
                have Sv2 := Lib.hid b.size
                have HB := Lib.hid (chain0 (w := w) (by repeat (first | with_reducible exact Below.refl _ _ | with_reducible exact HB.out | with_reducible apply Below.drew | with_reducible apply bdN | with_reducible refine Below.alloc ?_ (by first | exact Nat.le_refl _ | with_reducible exact HB.out.size | omega | (simp; done) | (simp; omega) | (have := HB.out.size; simp at *; omega)) _ | with_reducible refine Below.setCell ?_ (by first | exact Nat.le_refl _ | with_reducible exact HB.out.size | omega | (simp; done) | (simp; omega) | (have := HB.out.size; simp at *; omega)) _)) b)
                have HR := Lib.hid (Rd.below (by repeat (first | with_reducible exact HR.out | with_reducible apply Rd.drewN | with_reducible apply Rd.drew | with_reducible apply Rd.alloc)) b)
                have K2 : Hid (GBox _ (w.heap.size) (⟨27, s, nx, .slice p n c, .slice ps ns cs, .slice pw nw cw⟩)) := Lib.hid (GBox.below (by repeat (first | with_reducible exact K2.out | with_reducible apply GBox.drewN | with_reducible apply GBox.drew | (with_reducible refine GBox.newAt ?_ ?_ <;> first | (simp; done) | rfl) | with_reducible apply GBox.alloc)) b)
                have K3 : Hid (CBox _ (w.heap.size + 1) (⟨45, cl⟩)) := Lib.hid (CBox.below (by repeat (first | with_reducible exact K3.out | with_reducible apply CBox.drewN | with_reducible apply CBox.drew | (with_reducible refine CBox.newAt ?_ ?_ <;> first | (simp; done) | rfl) | with_reducible apply CBox.alloc)) b)
                try clear k2a k2b k2c k2d k2e k2z
                have k2z := K2.out.lt
                obtain ⟨k2a, k2b, k2c, k2d, k2e⟩ := K2.out.cell
                try clear k3a k3b k3c k3d k3z
                have k3z := K3.out.lt
                obtain ⟨k3a, k3b, k3c, k3d⟩ := K3.out.cell
                clear b
                go_wp2_with fail
                go_ret
                exact ⟨rfl, by repeat (first | with_reducible exact Below.refl _ _ | with_reducible exact HB.out | with_reducible apply Below.drew | with_reducible apply bdN | with_reducible refine Below.alloc ?_ (by first | exact Nat.le_refl _ | with_reducible exact HB.out.size | omega | (simp; done) | (simp; omega) | (have := HB.out.size; simp at *; omega)) _ | with_reducible refine Below.setCell ?_ (by first | exact Nat.le_refl _ | with_reducible exact HB.out.size | omega | (simp; done) | (simp; omega) | (have := HB.out.size; simp at *; omega)) _)⟩
            · skip
              have HC0 := Lib.hid (show ∀ w, Calls Try.prog 54 #[.int .i64 cl.b, .int .i64 0, .int .i64 ((n : Int) - 1)] w fun e w' => e = .returned (.bool true) ∧ Below w.heap.size w w' from fun w => by have h := l1_in cl.b 0 ((n : Int) - 1) w; rwa [decide_eq_true hi0] at h)
              have HC1 := Lib.hid (show ∀ w, Calls Try.prog 54 #[.int .i64 cl.c, .int .i64 0, .int .i64 ((n : Int) - 1)] w fun e w' => e = .returned (.bool true) ∧ Below w.heap.size w w' from fun w => by have h := l1_in cl.c 0 ((n : Int) - 1) w; rwa [decide_eq_true hi1] at h)
              have HC2 := Lib.hid (show ∀ w, Calls Try.prog 54 #[.int .i64 cl.d, .int .i64 0, .int .i64 ((n : Int) - 1)] w fun e w' => e = .returned (.bool false) ∧ Below w.heap.size w w' from fun w => by have h := l1_in cl.d 0 ((n : Int) - 1) w; rwa [decide_eq_false hi2] at h)
              have HT := Lib.hid (kind_i (l := l) HRn.out (by rw [H2.out]; unfold onT plc; rw [HN.out]; simp only [Bool.true_and]; exact decide_eq_false (by omega)))
              rw [HT.out]
              go_enter Try.func68, Try.ntmps68
              go_upto_region 1 with fail
              obtain ⟨w0, ew, b⟩ : ∃ wOPN : World, wOPN = ((w.alloc (Gv.obj ⟨27, s, nx, .slice p n c, .slice ps ns cs, .slice pw nw cw⟩)).alloc (Cv.obj ⟨45, cl⟩)) ∧ Below (((w.alloc (Gv.obj ⟨27, s, nx, .slice p n c, .slice ps ns cs, .slice pw nw cw⟩)).alloc (Cv.obj ⟨45, cl⟩))).heap.size (((w.alloc (Gv.obj ⟨27, s, nx, .slice p n c, .slice ps ns cs, .slice pw nw cw⟩)).alloc (Cv.obj ⟨45, cl⟩))) wOPN := ⟨_, rfl, Below.refl _ _⟩
              rw [← ew]
              clear ew
              have Sw0 := Lib.hid b.size
              have HB := Lib.hid (chain0 (w := w) (by repeat (first | with_reducible exact Below.refl _ _ | with_reducible exact HB.out | with_reducible apply Below.drew | with_reducible apply bdN | with_reducible refine Below.alloc ?_ (by first | exact Nat.le_refl _ | with_reducible exact HB.out.size | omega | (simp; done) | (simp; omega) | (have := HB.out.size; simp at *; omega)) _ | with_reducible refine Below.setCell ?_ (by first | exact Nat.le_refl _ | with_reducible exact HB.out.size | omega | (simp; done) | (simp; omega) | (have := HB.out.size; simp at *; omega)) _)) b)
              have HR := Lib.hid (Rd.below (by repeat (first | with_reducible exact HR.out | with_reducible apply Rd.drewN | with_reducible apply Rd.drew | with_reducible apply Rd.alloc)) b)
              have K2 : Hid (GBox _ (w.heap.size) (⟨27, s, nx, .slice p n c, .slice ps ns cs, .slice pw nw cw⟩)) := Lib.hid (GBox.below (by repeat (first | with_reducible exact K2.out | with_reducible apply GBox.drewN | with_reducible apply GBox.drew | (with_reducible refine GBox.newAt ?_ ?_ <;> first | (simp; done) | rfl) | with_reducible apply GBox.alloc)) b)
              have K3 : Hid (CBox _ (w.heap.size + 1) (⟨45, cl⟩)) := Lib.hid (CBox.below (by repeat (first | with_reducible exact K3.out | with_reducible apply CBox.drewN | with_reducible apply CBox.drew | (with_reducible refine CBox.newAt ?_ ?_ <;> first | (simp; done) | rfl) | with_reducible apply CBox.alloc)) b)
              try clear k2a k2b k2c k2d k2e k2z
              have k2z := K2.out.lt
              obtain ⟨k2a, k2b, k2c, k2d, k2e⟩ := K2.out.cell
              try clear k3a k3b k3c k3d k3z
              have k3z := K3.out.lt
              obtain ⟨k3a, k3b, k3c, k3d⟩ := K3.out.cell
              clear b
              go_wp2_with fail
              refine ((HPl.out _)).mono ?_
              rintro e w1 ⟨rfl, b⟩
              have Sw1 := Lib.hid b.size
              have HB := Lib.hid (chain0 (w := w) (by repeat (first | with_reducible exact Below.refl _ _ | with_reducible exact HB.out | with_reducible apply Below.drew | with_reducible apply bdN | with_reducible refine Below.alloc ?_ (by first | exact Nat.le_refl _ | with_reducible exact HB.out.size | omega | (simp; done) | (simp; omega) | (have := HB.out.size; simp at *; omega)) _ | with_reducible refine Below.setCell ?_ (by first | exact Nat.le_refl _ | with_reducible exact HB.out.size | omega | (simp; done) | (simp; omega) | (have := HB.out.size; simp at *; omega)) _)) b)
              have HR := Lib.hid (Rd.below (by repeat (first | with_reducible exact HR.out | with_reducible apply Rd.drewN | with_reducible apply Rd.drew | with_reducible apply Rd.alloc)) b)
              have K2 : Hid (GBox _ (w.heap.size) (⟨27, s, nx, .slice p n c, .slice ps ns cs, .slice pw nw cw⟩)) := Lib.hid (GBox.below (by repeat (first | with_reducible exact K2.out | with_reducible apply GBox.drewN | with_reducible apply GBox.drew | (with_reducible refine GBox.newAt ?_ ?_ <;> first | (simp; done) | rfl) | with_reducible apply GBox.alloc)) b)
              have K3 : Hid (CBox _ (w.heap.size + 1) (⟨45, cl⟩)) := Lib.hid (CBox.below (by repeat (first | with_reducible exact K3.out | with_reducible apply CBox.drewN | with_reducible apply CBox.drew | (with_reducible refine CBox.newAt ?_ ?_ <;> first | (simp; done) | rfl) | with_reducible apply CBox.alloc)) b)
              try clear k2a k2b k2c k2d k2e k2z
              have k2z := K2.out.lt
              obtain ⟨k2a, k2b, k2c, k2d, k2e⟩ := K2.out.cell
              try clear k3a k3b k3c k3d k3z
              have k3z := K3.out.lt
              obtain ⟨k3a, k3b, k3c, k3d⟩ := K3.out.cell
              clear b
              go_wp2_with fail
              refine ((HLi.out _ HR.out)).mono ?_
              rintro e w2 ⟨rfl, b⟩
              have Sw2 := Lib.hid b.size
              have HB := Lib.hid (chain0 (w := w) (by repeat (first | with_reducible exact Below.refl _ _ | with_reducible exact HB.out | with_reducible apply Below.drew | with_reducible apply bdN | with_reducible refine Below.alloc ?_ (by first | exact Nat.le_refl _ | with_reducible exact HB.out.size | omega | (simp; done) | (simp; omega) | (have := HB.out.size; simp at *; omega)) _ | with_reducible refine Below.setCell ?_ (by first | exact Nat.le_refl _ | with_reducible exact HB.out.size | omega | (simp; done) | (simp; omega) | (have := HB.out.size; simp at *; omega)) _)) b)
              have HR := Lib.hid (Rd.below (by repeat (first | with_reducible exact HR.out | with_reducible apply Rd.drewN | with_reducible apply Rd.drew | with_reducible apply Rd.alloc)) b)
              have K2 : Hid (GBox _ (w.heap.size) (⟨27, s, nx, .slice p n c, .slice ps ns cs, .slice pw nw cw⟩)) := Lib.hid (GBox.below (by repeat (first | with_reducible exact K2.out | with_reducible apply GBox.drewN | with_reducible apply GBox.drew | (with_reducible refine GBox.newAt ?_ ?_ <;> first | (simp; done) | rfl) | with_reducible apply GBox.alloc)) b)
              have K3 : Hid (CBox _ (w.heap.size + 1) (⟨45, cl⟩)) := Lib.hid (CBox.below (by repeat (first | with_reducible exact K3.out | with_reducible apply CBox.drewN | with_reducible apply CBox.drew | (with_reducible refine CBox.newAt ?_ ?_ <;> first | (simp; done) | rfl) | with_reducible apply CBox.alloc)) b)
              try clear k2a k2b k2c k2d k2e k2z
              have k2z := K2.out.lt
              obtain ⟨k2a, k2b, k2c, k2d, k2e⟩ := K2.out.cell
              try clear k3a k3b k3c k3d k3z
              have k3z := K3.out.lt
              obtain ⟨k3a, k3b, k3c, k3d⟩ := K3.out.cell
              clear b
              go_wp2_with fail
              refine wp_loop_rounds 4 ?_
              rw [rounds_succ]
              go_wp2_with fail
              have qk2a := fun d os => cell_regrown k2a d os
              have qk2b := fun d os => cell_regrown k2b d os
              have qk2c := fun d os => cell_regrown k2c d os
              have qk2d := fun d os => cell_regrown k2d d os
              have qk2e := fun d os => cell_regrown k2e d os
              have qk3a := fun d os => cell_regrown k3a d os
              have qk3b := fun d os => cell_regrown k3b d os
              have qk3c := fun d os => cell_regrown k3c d os
              have qk3d := fun d os => cell_regrown k3d d os
              refine wp_region_quiet_below (by kernel_rfl) (by kernel_rfl) ?_
              repeat (first | go_big_quiet_step ((go_at_call 54; first | with_reducible exact Calls.regrown_of (HC0.out _))) | quiet_step ((go_at_call 54; first | with_reducible exact Calls.regrown_of (HC0.out _))))
              refine wpQuiet_nil ?_
              intro v0 hw2
              have b : Below w2.heap.size w2 v0 := by obtain ⟨r, hr⟩ := hw2; rw [hr]; exact below_regrown _ _ _
              clear hw2 qk2a qk2b qk2c qk3a qk3b qk3c
              have Sv0 := Lib.hid b.size
              have HB := Lib.hid (chain0 (w := w) (by repeat (first | with_reducible exact Below.refl _ _ | with_reducible exact HB.out | with_reducible apply Below.drew | with_reducible apply bdN | with_reducible refine Below.alloc ?_ (by first | exact Nat.le_refl _ | with_reducible exact HB.out.size | omega | (simp; done) | (simp; omega) | (have := HB.out.size; simp at *; omega)) _ | with_reducible refine Below.setCell ?_ (by first | exact Nat.le_refl _ | with_reducible exact HB.out.size | omega | (simp; done) | (simp; omega) | (have := HB.out.size; simp at *; omega)) _)) b)
              have HR := Lib.hid (Rd.below (by repeat (first | with_reducible exact HR.out | with_reducible apply Rd.drewN | with_reducible apply Rd.drew | with_reducible apply Rd.alloc)) b)
              have K2 : Hid (GBox _ (w.heap.size) (⟨27, s, nx, .slice p n c, .slice ps ns cs, .slice pw nw cw⟩)) := Lib.hid (GBox.below (by repeat (first | with_reducible exact K2.out | with_reducible apply GBox.drewN | with_reducible apply GBox.drew | (with_reducible refine GBox.newAt ?_ ?_ <;> first | (simp; done) | rfl) | with_reducible apply GBox.alloc)) b)
              have K3 : Hid (CBox _ (w.heap.size + 1) (⟨45, cl⟩)) := Lib.hid (CBox.below (by repeat (first | with_reducible exact K3.out | with_reducible apply CBox.drewN | with_reducible apply CBox.drew | (with_reducible refine CBox.newAt ?_ ?_ <;> first | (simp; done) | rfl) | with_reducible apply CBox.alloc)) b)
              try clear k2a k2b k2c k2d k2e k2z
              have k2z := K2.out.lt
              obtain ⟨k2a, k2b, k2c, k2d, k2e⟩ := K2.out.cell
              try clear k3a k3b k3c k3d k3z
              have k3z := K3.out.lt
              obtain ⟨k3a, k3b, k3c, k3d⟩ := K3.out.cell
              clear b
              go_wp2_with fail
              rw [rounds_succ]
              go_wp2_with fail
              have qk2a := fun d os => cell_regrown k2a d os
              have qk2b := fun d os => cell_regrown k2b d os
              have qk2c := fun d os => cell_regrown k2c d os
              have qk2d := fun d os => cell_regrown k2d d os
              have qk2e := fun d os => cell_regrown k2e d os
              have qk3a := fun d os => cell_regrown k3a d os
              have qk3b := fun d os => cell_regrown k3b d os
              have qk3c := fun d os => cell_regrown k3c d os
              have qk3d := fun d os => cell_regrown k3d d os
              refine wp_region_quiet_below (by kernel_rfl) (by kernel_rfl) ?_
              repeat (first | go_big_quiet_step ((go_at_call 54; first | with_reducible exact Calls.regrown_of (HC0.out _) | with_reducible exact Calls.regrown_of (HC1.out _))) | quiet_step ((go_at_call 54; first | with_reducible exact Calls.regrown_of (HC0.out _) | with_reducible exact Calls.regrown_of (HC1.out _))))
              refine wpQuiet_nil ?_
              intro v1 hw2
              have b : Below v0.heap.size v0 v1 := by obtain ⟨r, hr⟩ := hw2; rw [hr]; exact below_regrown _ _ _
              clear hw2 qk2a qk2b qk2c qk3a qk3b qk3c
              have Sv1 := Lib.hid b.size
              have HB := Lib.hid (chain0 (w := w) (by repeat (first | with_reducible exact Below.refl _ _ | with_reducible exact HB.out | with_reducible apply Below.drew | with_reducible apply bdN | with_reducible refine Below.alloc ?_ (by first | exact Nat.le_refl _ | with_reducible exact HB.out.size | omega | (simp; done) | (simp; omega) | (have := HB.out.size; simp at *; omega)) _ | with_reducible refine Below.setCell ?_ (by first | exact Nat.le_refl _ | with_reducible exact HB.out.size | omega | (simp; done) | (simp; omega) | (have := HB.out.size; simp at *; omega)) _)) b)
              have HR := Lib.hid (Rd.below (by repeat (first | with_reducible exact HR.out | with_reducible apply Rd.drewN | with_reducible apply Rd.drew | with_reducible apply Rd.alloc)) b)
              have K2 : Hid (GBox _ (w.heap.size) (⟨27, s, nx, .slice p n c, .slice ps ns cs, .slice pw nw cw⟩)) := Lib.hid (GBox.below (by repeat (first | with_reducible exact K2.out | with_reducible apply GBox.drewN | with_reducible apply GBox.drew | (with_reducible refine GBox.newAt ?_ ?_ <;> first | (simp; done) | rfl) | with_reducible apply GBox.alloc)) b)
              have K3 : Hid (CBox _ (w.heap.size + 1) (⟨45, cl⟩)) := Lib.hid (CBox.below (by repeat (first | with_reducible exact K3.out | with_reducible apply CBox.drewN | with_reducible apply CBox.drew | (with_reducible refine CBox.newAt ?_ ?_ <;> first | (simp; done) | rfl) | with_reducible apply CBox.alloc)) b)
              try clear k2a k2b k2c k2d k2e k2z
              have k2z := K2.out.lt
              obtain ⟨k2a, k2b, k2c, k2d, k2e⟩ := K2.out.cell
              try clear k3a k3b k3c k3d k3z
              have k3z := K3.out.lt
              obtain ⟨k3a, k3b, k3c, k3d⟩ := K3.out.cell
              clear b
              go_wp2_with fail
              rw [rounds_succ]
              go_wp2_with fail
              have qk2a := fun d os => cell_regrown k2a d os
              have qk2b := fun d os => cell_regrown k2b d os
              have qk2c := fun d os => cell_regrown k2c d os
              have qk2d := fun d os => cell_regrown k2d d os
              have qk2e := fun d os => cell_regrown k2e d os
              have qk3a := fun d os => cell_regrown k3a d os
              have qk3b := fun d os => cell_regrown k3b d os
              have qk3c := fun d os => cell_regrown k3c d os
              have qk3d := fun d os => cell_regrown k3d d os
              refine wp_region_quiet_below (by kernel_rfl) (by kernel_rfl) ?_
              repeat (first | go_big_quiet_step ((go_at_call 54; first | with_reducible exact Calls.regrown_of (HC0.out _) | with_reducible exact Calls.regrown_of (HC1.out _) | with_reducible exact Calls.regrown_of (HC2.out _))) | quiet_step ((go_at_call 54; first | with_reducible exact Calls.regrown_of (HC0.out _) | with_reducible exact Calls.regrown_of (HC1.out _) | with_reducible exact Calls.regrown_of (HC2.out _))))
              refine wpQuiet_nil ?_
              intro v2 hw2
              have b : Below v1.heap.size v1 v2 := by obtain ⟨r, hr⟩ := hw2; rw [hr]; exact below_regrown _ _ _
              clear hw2 qk2a qk2b qk2c qk3a qk3b qk3c
              have Sv2 := Lib.hid b.size
              have HB := Lib.hid (chain0 (w := w) (by repeat (first | with_reducible exact Below.refl _ _ | with_reducible exact HB.out | with_reducible apply Below.drew | with_reducible apply bdN | with_reducible refine Below.alloc ?_ (by first | exact Nat.le_refl _ | with_reducible exact HB.out.size | omega | (simp; done) | (simp; omega) | (have := HB.out.size; simp at *; omega)) _ | with_reducible refine Below.setCell ?_ (by first | exact Nat.le_refl _ | with_reducible exact HB.out.size | omega | (simp; done) | (simp; omega) | (have := HB.out.size; simp at *; omega)) _)) b)
              have HR := Lib.hid (Rd.below (by repeat (first | with_reducible exact HR.out | with_reducible apply Rd.drewN | with_reducible apply Rd.drew | with_reducible apply Rd.alloc)) b)
              have K2 : Hid (GBox _ (w.heap.size) (⟨27, s, nx, .slice p n c, .slice ps ns cs, .slice pw nw cw⟩)) := Lib.hid (GBox.below (by repeat (first | with_reducible exact K2.out | with_reducible apply GBox.drewN | with_reducible apply GBox.drew | (with_reducible refine GBox.newAt ?_ ?_ <;> first | (simp; done) | rfl) | with_reducible apply GBox.alloc)) b)
              have K3 : Hid (CBox _ (w.heap.size + 1) (⟨45, cl⟩)) := Lib.hid (CBox.below (by repeat (first | with_reducible exact K3.out | with_reducible apply CBox.drewN | with_reducible apply CBox.drew | (with_reducible refine CBox.newAt ?_ ?_ <;> first | (simp; done) | rfl) | with_reducible apply CBox.alloc)) b)
              try clear k2a k2b k2c k2d k2e k2z
              have k2z := K2.out.lt
              obtain ⟨k2a, k2b, k2c, k2d, k2e⟩ := K2.out.cell
              try clear k3a k3b k3c k3d k3z
              have k3z := K3.out.lt
              obtain ⟨k3a, k3b, k3c, k3d⟩ := K3.out.cell
              clear b
              go_wp2_with fail
              go_ret
              exact ⟨rfl, by repeat (first | with_reducible exact Below.refl _ _ | with_reducible exact HB.out | with_reducible apply Below.drew | with_reducible apply bdN | with_reducible refine Below.alloc ?_ (by first | exact Nat.le_refl _ | with_reducible exact HB.out.size | omega | (simp; done) | (simp; omega) | (have := HB.out.size; simp at *; omega)) _ | with_reducible refine Below.setCell ?_ (by first | exact Nat.le_refl _ | with_reducible exact HB.out.size | omega | (simp; done) | (simp; omega) | (have := HB.out.size; simp at *; omega)) _)⟩
          · skip
            have HC0 := Lib.hid (show ∀ w, Calls Try.prog 54 #[.int .i64 cl.b, .int .i64 0, .int .i64 ((n : Int) - 1)] w fun e w' => e = .returned (.bool true) ∧ Below w.heap.size w w' from fun w => by have h := l1_in cl.b 0 ((n : Int) - 1) w; rwa [decide_eq_true hi0] at h)
            have HC1 := Lib.hid (show ∀ w, Calls Try.prog 54 #[.int .i64 cl.c, .int .i64 0, .int .i64 ((n : Int) - 1)] w fun e w' => e = .returned (.bool true) ∧ Below w.heap.size w w' from fun w => by have h := l1_in cl.c 0 ((n : Int) - 1) w; rwa [decide_eq_true hi1] at h)
            have HT := Lib.hid (kind_i (l := l) HRn.out (by rw [H2.out]; unfold onT plc; rw [HN.out]; simp only [Bool.true_and]; exact decide_eq_false (by omega)))
            rw [HT.out]
            go_enter Try.func68, Try.ntmps68
            go_upto_region 1 with fail
            obtain ⟨w0, ew, b⟩ : ∃ wOPN : World, wOPN = ((w.alloc (Gv.obj ⟨27, s, nx, .slice p n c, .slice ps ns cs, .slice pw nw cw⟩)).alloc (Cv.obj ⟨45, cl⟩)) ∧ Below (((w.alloc (Gv.obj ⟨27, s, nx, .slice p n c, .slice ps ns cs, .slice pw nw cw⟩)).alloc (Cv.obj ⟨45, cl⟩))).heap.size (((w.alloc (Gv.obj ⟨27, s, nx, .slice p n c, .slice ps ns cs, .slice pw nw cw⟩)).alloc (Cv.obj ⟨45, cl⟩))) wOPN := ⟨_, rfl, Below.refl _ _⟩
            rw [← ew]
            clear ew
            have Sw0 := Lib.hid b.size
            have HB := Lib.hid (chain0 (w := w) (by repeat (first | with_reducible exact Below.refl _ _ | with_reducible exact HB.out | with_reducible apply Below.drew | with_reducible apply bdN | with_reducible refine Below.alloc ?_ (by first | exact Nat.le_refl _ | with_reducible exact HB.out.size | omega | (simp; done) | (simp; omega) | (have := HB.out.size; simp at *; omega)) _ | with_reducible refine Below.setCell ?_ (by first | exact Nat.le_refl _ | with_reducible exact HB.out.size | omega | (simp; done) | (simp; omega) | (have := HB.out.size; simp at *; omega)) _)) b)
            have HR := Lib.hid (Rd.below (by repeat (first | with_reducible exact HR.out | with_reducible apply Rd.drewN | with_reducible apply Rd.drew | with_reducible apply Rd.alloc)) b)
            have K2 : Hid (GBox _ (w.heap.size) (⟨27, s, nx, .slice p n c, .slice ps ns cs, .slice pw nw cw⟩)) := Lib.hid (GBox.below (by repeat (first | with_reducible exact K2.out | with_reducible apply GBox.drewN | with_reducible apply GBox.drew | (with_reducible refine GBox.newAt ?_ ?_ <;> first | (simp; done) | rfl) | with_reducible apply GBox.alloc)) b)
            have K3 : Hid (CBox _ (w.heap.size + 1) (⟨45, cl⟩)) := Lib.hid (CBox.below (by repeat (first | with_reducible exact K3.out | with_reducible apply CBox.drewN | with_reducible apply CBox.drew | (with_reducible refine CBox.newAt ?_ ?_ <;> first | (simp; done) | rfl) | with_reducible apply CBox.alloc)) b)
            try clear k2a k2b k2c k2d k2e k2z
            have k2z := K2.out.lt
            obtain ⟨k2a, k2b, k2c, k2d, k2e⟩ := K2.out.cell
            try clear k3a k3b k3c k3d k3z
            have k3z := K3.out.lt
            obtain ⟨k3a, k3b, k3c, k3d⟩ := K3.out.cell
            clear b
            go_wp2_with fail
            refine ((HPl.out _)).mono ?_
            rintro e w1 ⟨rfl, b⟩
            have Sw1 := Lib.hid b.size
            have HB := Lib.hid (chain0 (w := w) (by repeat (first | with_reducible exact Below.refl _ _ | with_reducible exact HB.out | with_reducible apply Below.drew | with_reducible apply bdN | with_reducible refine Below.alloc ?_ (by first | exact Nat.le_refl _ | with_reducible exact HB.out.size | omega | (simp; done) | (simp; omega) | (have := HB.out.size; simp at *; omega)) _ | with_reducible refine Below.setCell ?_ (by first | exact Nat.le_refl _ | with_reducible exact HB.out.size | omega | (simp; done) | (simp; omega) | (have := HB.out.size; simp at *; omega)) _)) b)
            have HR := Lib.hid (Rd.below (by repeat (first | with_reducible exact HR.out | with_reducible apply Rd.drewN | with_reducible apply Rd.drew | with_reducible apply Rd.alloc)) b)
            have K2 : Hid (GBox _ (w.heap.size) (⟨27, s, nx, .slice p n c, .slice ps ns cs, .slice pw nw cw⟩)) := Lib.hid (GBox.below (by repeat (first | with_reducible exact K2.out | with_reducible apply GBox.drewN | with_reducible apply GBox.drew | (with_reducible refine GBox.newAt ?_ ?_ <;> first | (simp; done) | rfl) | with_reducible apply GBox.alloc)) b)
            have K3 : Hid (CBox _ (w.heap.size + 1) (⟨45, cl⟩)) := Lib.hid (CBox.below (by repeat (first | with_reducible exact K3.out | with_reducible apply CBox.drewN | with_reducible apply CBox.drew | (with_reducible refine CBox.newAt ?_ ?_ <;> first | (simp; done) | rfl) | with_reducible apply CBox.alloc)) b)
            try clear k2a k2b k2c k2d k2e k2z
            have k2z := K2.out.lt
            obtain ⟨k2a, k2b, k2c, k2d, k2e⟩ := K2.out.cell
            try clear k3a k3b k3c k3d k3z
            have k3z := K3.out.lt
            obtain ⟨k3a, k3b, k3c, k3d⟩ := K3.out.cell
            clear b
            go_wp2_with fail
            refine ((HLi.out _ HR.out)).mono ?_
            rintro e w2 ⟨rfl, b⟩
            have Sw2 := Lib.hid b.size
            have HB := Lib.hid (chain0 (w := w) (by repeat (first | with_reducible exact Below.refl _ _ | with_reducible exact HB.out | with_reducible apply Below.drew | with_reducible apply bdN | with_reducible refine Below.alloc ?_ (by first | exact Nat.le_refl _ | with_reducible exact HB.out.size | omega | (simp; done) | (simp; omega) | (have := HB.out.size; simp at *; omega)) _ | with_reducible refine Below.setCell ?_ (by first | exact Nat.le_refl _ | with_reducible exact HB.out.size | omega | (simp; done) | (simp; omega) | (have := HB.out.size; simp at *; omega)) _)) b)
            have HR := Lib.hid (Rd.below (by repeat (first | with_reducible exact HR.out | with_reducible apply Rd.drewN | with_reducible apply Rd.drew | with_reducible apply Rd.alloc)) b)
            have K2 : Hid (GBox _ (w.heap.size) (⟨27, s, nx, .slice p n c, .slice ps ns cs, .slice pw nw cw⟩)) := Lib.hid (GBox.below (by repeat (first | with_reducible exact K2.out | with_reducible apply GBox.drewN | with_reducible apply GBox.drew | (with_reducible refine GBox.newAt ?_ ?_ <;> first | (simp; done) | rfl) | with_reducible apply GBox.alloc)) b)
            have K3 : Hid (CBox _ (w.heap.size + 1) (⟨45, cl⟩)) := Lib.hid (CBox.below (by repeat (first | with_reducible exact K3.out | with_reducible apply CBox.drewN | with_reducible apply CBox.drew | (with_reducible refine CBox.newAt ?_ ?_ <;> first | (simp; done) | rfl) | with_reducible apply CBox.alloc)) b)
            try clear k2a k2b k2c k2d k2e k2z
            have k2z := K2.out.lt
            obtain ⟨k2a, k2b, k2c, k2d, k2e⟩ := K2.out.cell
            try clear k3a k3b k3c k3d k3z
            have k3z := K3.out.lt
            obtain ⟨k3a, k3b, k3c, k3d⟩ := K3.out.cell
            clear b
            go_wp2_with fail
            refine wp_loop_rounds 4 ?_
            rw [rounds_succ]
            go_wp2_with fail
            have qk2a := fun d os => cell_regrown k2a d os
            have qk2b := fun d os => cell_regrown k2b d os
            have qk2c := fun d os => cell_regrown k2c d os
            have qk2d := fun d os => cell_regrown k2d d os
            have qk2e := fun d os => cell_regrown k2e d os
            have qk3a := fun d os => cell_regrown k3a d os
            have qk3b := fun d os => cell_regrown k3b d os
            have qk3c := fun d os => cell_regrown k3c d os
            have qk3d := fun d os => cell_regrown k3d d os
            refine wp_region_quiet_below (by kernel_rfl) (by kernel_rfl) ?_
            repeat (first | go_big_quiet_step ((go_at_call 54; first | with_reducible exact Calls.regrown_of (HC0.out _))) | quiet_step ((go_at_call 54; first | with_reducible exact Calls.regrown_of (HC0.out _))))
            refine wpQuiet_nil ?_
            intro v0 hw2
            have b : Below w2.heap.size w2 v0 := by obtain ⟨r, hr⟩ := hw2; rw [hr]; exact below_regrown _ _ _
            clear hw2 qk2a qk2b qk2c qk3a qk3b qk3c
            have Sv0 := Lib.hid b.size
            have HB := Lib.hid (chain0 (w := w) (by repeat (first | with_reducible exact Below.refl _ _ | with_reducible exact HB.out | with_reducible apply Below.drew | with_reducible apply bdN | with_reducible refine Below.alloc ?_ (by first | exact Nat.le_refl _ | with_reducible exact HB.out.size | omega | (simp; done) | (simp; omega) | (have := HB.out.size; simp at *; omega)) _ | with_reducible refine Below.setCell ?_ (by first | exact Nat.le_refl _ | with_reducible exact HB.out.size | omega | (simp; done) | (simp; omega) | (have := HB.out.size; simp at *; omega)) _)) b)
            have HR := Lib.hid (Rd.below (by repeat (first | with_reducible exact HR.out | with_reducible apply Rd.drewN | with_reducible apply Rd.drew | with_reducible apply Rd.alloc)) b)
            have K2 : Hid (GBox _ (w.heap.size) (⟨27, s, nx, .slice p n c, .slice ps ns cs, .slice pw nw cw⟩)) := Lib.hid (GBox.below (by repeat (first | with_reducible exact K2.out | with_reducible apply GBox.drewN | with_reducible apply GBox.drew | (with_reducible refine GBox.newAt ?_ ?_ <;> first | (simp; done) | rfl) | with_reducible apply GBox.alloc)) b)
            have K3 : Hid (CBox _ (w.heap.size + 1) (⟨45, cl⟩)) := Lib.hid (CBox.below (by repeat (first | with_reducible exact K3.out | with_reducible apply CBox.drewN | with_reducible apply CBox.drew | (with_reducible refine CBox.newAt ?_ ?_ <;> first | (simp; done) | rfl) | with_reducible apply CBox.alloc)) b)
            try clear k2a k2b k2c k2d k2e k2z
            have k2z := K2.out.lt
            obtain ⟨k2a, k2b, k2c, k2d, k2e⟩ := K2.out.cell
            try clear k3a k3b k3c k3d k3z
            have k3z := K3.out.lt
            obtain ⟨k3a, k3b, k3c, k3d⟩ := K3.out.cell
            clear b
            go_wp2_with fail
            rw [rounds_succ]
            go_wp2_with fail
            have qk2a := fun d os => cell_regrown k2a d os
            have qk2b := fun d os => cell_regrown k2b d os
            have qk2c := fun d os => cell_regrown k2c d os
            have qk2d := fun d os => cell_regrown k2d d os
            have qk2e := fun d os => cell_regrown k2e d os
            have qk3a := fun d os => cell_regrown k3a d os
            have qk3b := fun d os => cell_regrown k3b d os
            have qk3c := fun d os => cell_regrown k3c d os
            have qk3d := fun d os => cell_regrown k3d d os
            refine wp_region_quiet_below (by kernel_rfl) (by kernel_rfl) ?_
            repeat (first | go_big_quiet_step ((go_at_call 54; first | with_reducible exact Calls.regrown_of (HC0.out _) | with_reducible exact Calls.regrown_of (HC1.out _))) | quiet_step ((go_at_call 54; first | with_reducible exact Calls.regrown_of (HC0.out _) | with_reducible exact Calls.regrown_of (HC1.out _))))
            refine wpQuiet_nil ?_
            intro v1 hw2
            have b : Below v0.heap.size v0 v1 := by obtain ⟨r, hr⟩ := hw2; rw [hr]; exact below_regrown _ _ _
            clear hw2 qk2a qk2b qk2c qk3a qk3b qk3c
            have Sv1 := Lib.hid b.size
            have HB := Lib.hid (chain0 (w := w) (by repeat (first | with_reducible exact Below.refl _ _ | with_reducible exact HB.out | with_reducible apply Below.drew | with_reducible apply bdN | with_reducible refine Below.alloc ?_ (by first | exact Nat.le_refl _ | with_reducible exact HB.out.size | omega | (simp; done) | (simp; omega) | (have := HB.out.size; simp at *; omega)) _ | with_reducible refine Below.setCell ?_ (by first | exact Nat.le_refl _ | with_reducible exact HB.out.size | omega | (simp; done) | (simp; omega) | (have := HB.out.size; simp at *; omega)) _)) b)
            have HR := Lib.hid (Rd.below (by repeat (first | with_reducible exact HR.out | with_reducible apply Rd.drewN | with_reducible apply Rd.drew | with_reducible apply Rd.alloc)) b)
            have K2 : Hid (GBox _ (w.heap.size) (⟨27, s, nx, .slice p n c, .slice ps ns cs, .slice pw nw cw⟩)) := Lib.hid (GBox.below (by repeat (first | with_reducible exact K2.out | with_reducible apply GBox.drewN | with_reducible apply GBox.drew | (with_reducible refine GBox.newAt ?_ ?_ <;> first | (simp; done) | rfl) | with_reducible apply GBox.alloc)) b)
            have K3 : Hid (CBox _ (w.heap.size + 1) (⟨45, cl⟩)) := Lib.hid (CBox.below (by repeat (first | with_reducible exact K3.out | with_reducible apply CBox.drewN | with_reducible apply CBox.drew | (with_reducible refine CBox.newAt ?_ ?_ <;> first | (simp; done) | rfl) | with_reducible apply CBox.alloc)) b)
            try clear k2a k2b k2c k2d k2e k2z
            have k2z := K2.out.lt
            obtain ⟨k2a, k2b, k2c, k2d, k2e⟩ := K2.out.cell
            try clear k3a k3b k3c k3d k3z
            have k3z := K3.out.lt
            obtain ⟨k3a, k3b, k3c, k3d⟩ := K3.out.cell
            clear b
            go_wp2_with fail
            go_ret
            exact ⟨rfl, by repeat (first | with_reducible exact Below.refl _ _ | with_reducible exact HB.out | with_reducible apply Below.drew | with_reducible apply bdN | with_reducible refine Below.alloc ?_ (by first | exact Nat.le_refl _ | with_reducible exact HB.out.size | omega | (simp; done) | (simp; omega) | (have := HB.out.size; simp at *; omega)) _ | with_reducible refine Below.setCell ?_ (by first | exact Nat.le_refl _ | with_reducible exact HB.out.size | omega | (simp; done) | (simp; omega) | (have := HB.out.size; simp at *; omega)) _)⟩
        · skip
          have HC0 := Lib.hid (show ∀ w, Calls Try.prog 54 #[.int .i64 cl.b, .int .i64 0, .int .i64 ((n : Int) - 1)] w fun e w' => e = .returned (.bool true) ∧ Below w.heap.size w w' from fun w => by have h := l1_in cl.b 0 ((n : Int) - 1) w; rwa [decide_eq_true hi0] at h)
          have HC1 := Lib.hid (show ∀ w, Calls Try.prog 54 #[.int .i64 cl.c, .int .i64 0, .int .i64 ((n : Int) - 1)] w fun e w' => e = .returned (.bool false) ∧ Below w.heap.size w w' from fun w => by have h := l1_in cl.c 0 ((n : Int) - 1) w; rwa [decide_eq_false hi1] at h)
          have HT := Lib.hid (kind_i (l := l) HRn.out (by rw [H2.out]; unfold onT plc; rw [HN.out]; simp only [Bool.true_and]; exact decide_eq_false (by omega)))
          rw [HT.out]
          go_enter Try.func68, Try.ntmps68
          go_upto_region 1 with fail
          obtain ⟨w0, ew, b⟩ : ∃ wOPN : World, wOPN = ((w.alloc (Gv.obj ⟨27, s, nx, .slice p n c, .slice ps ns cs, .slice pw nw cw⟩)).alloc (Cv.obj ⟨45, cl⟩)) ∧ Below (((w.alloc (Gv.obj ⟨27, s, nx, .slice p n c, .slice ps ns cs, .slice pw nw cw⟩)).alloc (Cv.obj ⟨45, cl⟩))).heap.size (((w.alloc (Gv.obj ⟨27, s, nx, .slice p n c, .slice ps ns cs, .slice pw nw cw⟩)).alloc (Cv.obj ⟨45, cl⟩))) wOPN := ⟨_, rfl, Below.refl _ _⟩
          rw [← ew]
          clear ew
          have Sw0 := Lib.hid b.size
          have HB := Lib.hid (chain0 (w := w) (by repeat (first | with_reducible exact Below.refl _ _ | with_reducible exact HB.out | with_reducible apply Below.drew | with_reducible apply bdN | with_reducible refine Below.alloc ?_ (by first | exact Nat.le_refl _ | with_reducible exact HB.out.size | omega | (simp; done) | (simp; omega) | (have := HB.out.size; simp at *; omega)) _ | with_reducible refine Below.setCell ?_ (by first | exact Nat.le_refl _ | with_reducible exact HB.out.size | omega | (simp; done) | (simp; omega) | (have := HB.out.size; simp at *; omega)) _)) b)
          have HR := Lib.hid (Rd.below (by repeat (first | with_reducible exact HR.out | with_reducible apply Rd.drewN | with_reducible apply Rd.drew | with_reducible apply Rd.alloc)) b)
          have K2 : Hid (GBox _ (w.heap.size) (⟨27, s, nx, .slice p n c, .slice ps ns cs, .slice pw nw cw⟩)) := Lib.hid (GBox.below (by repeat (first | with_reducible exact K2.out | with_reducible apply GBox.drewN | with_reducible apply GBox.drew | (with_reducible refine GBox.newAt ?_ ?_ <;> first | (simp; done) | rfl) | with_reducible apply GBox.alloc)) b)
          have K3 : Hid (CBox _ (w.heap.size + 1) (⟨45, cl⟩)) := Lib.hid (CBox.below (by repeat (first | with_reducible exact K3.out | with_reducible apply CBox.drewN | with_reducible apply CBox.drew | (with_reducible refine CBox.newAt ?_ ?_ <;> first | (simp; done) | rfl) | with_reducible apply CBox.alloc)) b)
          try clear k2a k2b k2c k2d k2e k2z
          have k2z := K2.out.lt
          obtain ⟨k2a, k2b, k2c, k2d, k2e⟩ := K2.out.cell
          try clear k3a k3b k3c k3d k3z
          have k3z := K3.out.lt
          obtain ⟨k3a, k3b, k3c, k3d⟩ := K3.out.cell
          clear b
          go_wp2_with fail
          refine ((HPl.out _)).mono ?_
          rintro e w1 ⟨rfl, b⟩
          have Sw1 := Lib.hid b.size
          have HB := Lib.hid (chain0 (w := w) (by repeat (first | with_reducible exact Below.refl _ _ | with_reducible exact HB.out | with_reducible apply Below.drew | with_reducible apply bdN | with_reducible refine Below.alloc ?_ (by first | exact Nat.le_refl _ | with_reducible exact HB.out.size | omega | (simp; done) | (simp; omega) | (have := HB.out.size; simp at *; omega)) _ | with_reducible refine Below.setCell ?_ (by first | exact Nat.le_refl _ | with_reducible exact HB.out.size | omega | (simp; done) | (simp; omega) | (have := HB.out.size; simp at *; omega)) _)) b)
          have HR := Lib.hid (Rd.below (by repeat (first | with_reducible exact HR.out | with_reducible apply Rd.drewN | with_reducible apply Rd.drew | with_reducible apply Rd.alloc)) b)
          have K2 : Hid (GBox _ (w.heap.size) (⟨27, s, nx, .slice p n c, .slice ps ns cs, .slice pw nw cw⟩)) := Lib.hid (GBox.below (by repeat (first | with_reducible exact K2.out | with_reducible apply GBox.drewN | with_reducible apply GBox.drew | (with_reducible refine GBox.newAt ?_ ?_ <;> first | (simp; done) | rfl) | with_reducible apply GBox.alloc)) b)
          have K3 : Hid (CBox _ (w.heap.size + 1) (⟨45, cl⟩)) := Lib.hid (CBox.below (by repeat (first | with_reducible exact K3.out | with_reducible apply CBox.drewN | with_reducible apply CBox.drew | (with_reducible refine CBox.newAt ?_ ?_ <;> first | (simp; done) | rfl) | with_reducible apply CBox.alloc)) b)
          try clear k2a k2b k2c k2d k2e k2z
          have k2z := K2.out.lt
          obtain ⟨k2a, k2b, k2c, k2d, k2e⟩ := K2.out.cell
          try clear k3a k3b k3c k3d k3z
          have k3z := K3.out.lt
          obtain ⟨k3a, k3b, k3c, k3d⟩ := K3.out.cell
          clear b
          go_wp2_with fail
          refine ((HLi.out _ HR.out)).mono ?_
          rintro e w2 ⟨rfl, b⟩
          have Sw2 := Lib.hid b.size
          have HB := Lib.hid (chain0 (w := w) (by repeat (first | with_reducible exact Below.refl _ _ | with_reducible exact HB.out | with_reducible apply Below.drew | with_reducible apply bdN | with_reducible refine Below.alloc ?_ (by first | exact Nat.le_refl _ | with_reducible exact HB.out.size | omega | (simp; done) | (simp; omega) | (have := HB.out.size; simp at *; omega)) _ | with_reducible refine Below.setCell ?_ (by first | exact Nat.le_refl _ | with_reducible exact HB.out.size | omega | (simp; done) | (simp; omega) | (have := HB.out.size; simp at *; omega)) _)) b)
          have HR := Lib.hid (Rd.below (by repeat (first | with_reducible exact HR.out | with_reducible apply Rd.drewN | with_reducible apply Rd.drew | with_reducible apply Rd.alloc)) b)
          have K2 : Hid (GBox _ (w.heap.size) (⟨27, s, nx, .slice p n c, .slice ps ns cs, .slice pw nw cw⟩)) := Lib.hid (GBox.below (by repeat (first | with_reducible exact K2.out | with_reducible apply GBox.drewN | with_reducible apply GBox.drew | (with_reducible refine GBox.newAt ?_ ?_ <;> first | (simp; done) | rfl) | with_reducible apply GBox.alloc)) b)
          have K3 : Hid (CBox _ (w.heap.size + 1) (⟨45, cl⟩)) := Lib.hid (CBox.below (by repeat (first | with_reducible exact K3.out | with_reducible apply CBox.drewN | with_reducible apply CBox.drew | (with_reducible refine CBox.newAt ?_ ?_ <;> first | (simp; done) | rfl) | with_reducible apply CBox.alloc)) b)
          try clear k2a k2b k2c k2d k2e k2z
          have k2z := K2.out.lt
          obtain ⟨k2a, k2b, k2c, k2d, k2e⟩ := K2.out.cell
          try clear k3a k3b k3c k3d k3z
          have k3z := K3.out.lt
          obtain ⟨k3a, k3b, k3c, k3d⟩ := K3.out.cell
          clear b
          go_wp2_with fail
          refine wp_loop_rounds 4 ?_
          rw [rounds_succ]
          go_wp2_with fail
          have qk2a := fun d os => cell_regrown k2a d os
          have qk2b := fun d os => cell_regrown k2b d os
          have qk2c := fun d os => cell_regrown k2c d os
          have qk2d := fun d os => cell_regrown k2d d os
          have qk2e := fun d os => cell_regrown k2e d os
          have qk3a := fun d os => cell_regrown k3a d os
          have qk3b := fun d os => cell_regrown k3b d os
          have qk3c := fun d os => cell_regrown k3c d os
          have qk3d := fun d os => cell_regrown k3d d os
          refine wp_region_quiet_below (by kernel_rfl) (by kernel_rfl) ?_
          repeat (first | go_big_quiet_step ((go_at_call 54; first | with_reducible exact Calls.regrown_of (HC0.out _))) | quiet_step ((go_at_call 54; first | with_reducible exact Calls.regrown_of (HC0.out _))))
          refine wpQuiet_nil ?_
          intro v0 hw2
          have b : Below w2.heap.size w2 v0 := by obtain ⟨r, hr⟩ := hw2; rw [hr]; exact below_regrown _ _ _
          clear hw2 qk2a qk2b qk2c qk3a qk3b qk3c
          have Sv0 := Lib.hid b.size
          have HB := Lib.hid (chain0 (w := w) (by repeat (first | with_reducible exact Below.refl _ _ | with_reducible exact HB.out | with_reducible apply Below.drew | with_reducible apply bdN | with_reducible refine Below.alloc ?_ (by first | exact Nat.le_refl _ | with_reducible exact HB.out.size | omega | (simp; done) | (simp; omega) | (have := HB.out.size; simp at *; omega)) _ | with_reducible refine Below.setCell ?_ (by first | exact Nat.le_refl _ | with_reducible exact HB.out.size | omega | (simp; done) | (simp; omega) | (have := HB.out.size; simp at *; omega)) _)) b)
          have HR := Lib.hid (Rd.below (by repeat (first | with_reducible exact HR.out | with_reducible apply Rd.drewN | with_reducible apply Rd.drew | with_reducible apply Rd.alloc)) b)
          have K2 : Hid (GBox _ (w.heap.size) (⟨27, s, nx, .slice p n c, .slice ps ns cs, .slice pw nw cw⟩)) := Lib.hid (GBox.below (by repeat (first | with_reducible exact K2.out | with_reducible apply GBox.drewN | with_reducible apply GBox.drew | (with_reducible refine GBox.newAt ?_ ?_ <;> first | (simp; done) | rfl) | with_reducible apply GBox.alloc)) b)
          have K3 : Hid (CBox _ (w.heap.size + 1) (⟨45, cl⟩)) := Lib.hid (CBox.below (by repeat (first | with_reducible exact K3.out | with_reducible apply CBox.drewN | with_reducible apply CBox.drew | (with_reducible refine CBox.newAt ?_ ?_ <;> first | (simp; done) | rfl) | with_reducible apply CBox.alloc)) b)
          try clear k2a k2b k2c k2d k2e k2z
          have k2z := K2.out.lt
          obtain ⟨k2a, k2b, k2c, k2d, k2e⟩ := K2.out.cell
          try clear k3a k3b k3c k3d k3z
          have k3z := K3.out.lt
          obtain ⟨k3a, k3b, k3c, k3d⟩ := K3.out.cell
          clear b
          go_wp2_with fail
          rw [rounds_succ]
          go_wp2_with fail
          have qk2a := fun d os => cell_regrown k2a d os
          have qk2b := fun d os => cell_regrown k2b d os
          have qk2c := fun d os => cell_regrown k2c d os
          have qk2d := fun d os => cell_regrown k2d d os
          have qk2e := fun d os => cell_regrown k2e d os
          have qk3a := fun d os => cell_regrown k3a d os
          have qk3b := fun d os => cell_regrown k3b d os
          have qk3c := fun d os => cell_regrown k3c d os
          have qk3d := fun d os => cell_regrown k3d d os
          refine wp_region_quiet_below (by kernel_rfl) (by kernel_rfl) ?_
          repeat (first | go_big_quiet_step ((go_at_call 54; first | with_reducible exact Calls.regrown_of (HC0.out _) | with_reducible exact Calls.regrown_of (HC1.out _))) | quiet_step ((go_at_call 54; first | with_reducible exact Calls.regrown_of (HC0.out _) | with_reducible exact Calls.regrown_of (HC1.out _))))
          refine wpQuiet_nil ?_
          intro v1 hw2
          have b : Below v0.heap.size v0 v1 := by obtain ⟨r, hr⟩ := hw2; rw [hr]; exact below_regrown _ _ _
          clear hw2 qk2a qk2b qk2c qk3a qk3b qk3c
          have Sv1 := Lib.hid b.size
          have HB := Lib.hid (chain0 (w := w) (by repeat (first | with_reducible exact Below.refl _ _ | with_reducible exact HB.out | with_reducible apply Below.drew | with_reducible apply bdN | with_reducible refine Below.alloc ?_ (by first | exact Nat.le_refl _ | with_reducible exact HB.out.size | omega | (simp; done) | (simp; omega) | (have := HB.out.size; simp at *; omega)) _ | with_reducible refine Below.setCell ?_ (by first | exact Nat.le_refl _ | with_reducible exact HB.out.size | omega | (simp; done) | (simp; omega) | (have := HB.out.size; simp at *; omega)) _)) b)
          have HR := Lib.hid (Rd.below (by repeat (first | with_reducible exact HR.out | with_reducible apply Rd.drewN | with_reducible apply Rd.drew | with_reducible apply Rd.alloc)) b)
          have K2 : Hid (GBox _ (w.heap.size) (⟨27, s, nx, .slice p n c, .slice ps ns cs, .slice pw nw cw⟩)) := Lib.hid (GBox.below (by repeat (first | with_reducible exact K2.out | with_reducible apply GBox.drewN | with_reducible apply GBox.drew | (with_reducible refine GBox.newAt ?_ ?_ <;> first | (simp; done) | rfl) | with_reducible apply GBox.alloc)) b)
          have K3 : Hid (CBox _ (w.heap.size + 1) (⟨45, cl⟩)) := Lib.hid (CBox.below (by repeat (first | with_reducible exact K3.out | with_reducible apply CBox.drewN | with_reducible apply CBox.drew | (with_reducible refine CBox.newAt ?_ ?_ <;> first | (simp; done) | rfl) | with_reducible apply CBox.alloc)) b)
          try clear k2a k2b k2c k2d k2e k2z
          have k2z := K2.out.lt
          obtain ⟨k2a, k2b, k2c, k2d, k2e⟩ := K2.out.cell
          try clear k3a k3b k3c k3d k3z
          have k3z := K3.out.lt
          obtain ⟨k3a, k3b, k3c, k3d⟩ := K3.out.cell
          clear b
          go_wp2_with fail
          go_ret
          exact ⟨rfl, by repeat (first | with_reducible exact Below.refl _ _ | with_reducible exact HB.out | with_reducible apply Below.drew | with_reducible apply bdN | with_reducible refine Below.alloc ?_ (by first | exact Nat.le_refl _ | with_reducible exact HB.out.size | omega | (simp; done) | (simp; omega) | (have := HB.out.size; simp at *; omega)) _ | with_reducible refine Below.setCell ?_ (by first | exact Nat.le_refl _ | with_reducible exact HB.out.size | omega | (simp; done) | (simp; omega) | (have := HB.out.size; simp at *; omega)) _)⟩
      · skip
        have HC0 := Lib.hid (show ∀ w, Calls Try.prog 54 #[.int .i64 cl.b, .int .i64 0, .int .i64 ((n : Int) - 1)] w fun e w' => e = .returned (.bool false) ∧ Below w.heap.size w w' from fun w => by have h := l1_in cl.b 0 ((n : Int) - 1) w; rwa [decide_eq_false hi0] at h)
        have HT := Lib.hid (kind_i (l := l) HRn.out (by rw [H2.out]; unfold onT plc; rw [HN.out]; simp only [Bool.true_and]; exact decide_eq_false (by omega)))
        rw [HT.out]
        go_enter Try.func68, Try.ntmps68
        go_upto_region 1 with fail
        obtain ⟨w0, ew, b⟩ : ∃ wOPN : World, wOPN = ((w.alloc (Gv.obj ⟨27, s, nx, .slice p n c, .slice ps ns cs, .slice pw nw cw⟩)).alloc (Cv.obj ⟨45, cl⟩)) ∧ Below (((w.alloc (Gv.obj ⟨27, s, nx, .slice p n c, .slice ps ns cs, .slice pw nw cw⟩)).alloc (Cv.obj ⟨45, cl⟩))).heap.size (((w.alloc (Gv.obj ⟨27, s, nx, .slice p n c, .slice ps ns cs, .slice pw nw cw⟩)).alloc (Cv.obj ⟨45, cl⟩))) wOPN := ⟨_, rfl, Below.refl _ _⟩
        rw [← ew]
        clear ew
        have Sw0 := Lib.hid b.size
        have HB := Lib.hid (chain0 (w := w) (by repeat (first | with_reducible exact Below.refl _ _ | with_reducible exact HB.out | with_reducible apply Below.drew | with_reducible apply bdN | with_reducible refine Below.alloc ?_ (by first | exact Nat.le_refl _ | with_reducible exact HB.out.size | omega | (simp; done) | (simp; omega) | (have := HB.out.size; simp at *; omega)) _ | with_reducible refine Below.setCell ?_ (by first | exact Nat.le_refl _ | with_reducible exact HB.out.size | omega | (simp; done) | (simp; omega) | (have := HB.out.size; simp at *; omega)) _)) b)
        have HR := Lib.hid (Rd.below (by repeat (first | with_reducible exact HR.out | with_reducible apply Rd.drewN | with_reducible apply Rd.drew | with_reducible apply Rd.alloc)) b)
        have K2 : Hid (GBox _ (w.heap.size) (⟨27, s, nx, .slice p n c, .slice ps ns cs, .slice pw nw cw⟩)) := Lib.hid (GBox.below (by repeat (first | with_reducible exact K2.out | with_reducible apply GBox.drewN | with_reducible apply GBox.drew | (with_reducible refine GBox.newAt ?_ ?_ <;> first | (simp; done) | rfl) | with_reducible apply GBox.alloc)) b)
        have K3 : Hid (CBox _ (w.heap.size + 1) (⟨45, cl⟩)) := Lib.hid (CBox.below (by repeat (first | with_reducible exact K3.out | with_reducible apply CBox.drewN | with_reducible apply CBox.drew | (with_reducible refine CBox.newAt ?_ ?_ <;> first | (simp; done) | rfl) | with_reducible apply CBox.alloc)) b)
        try clear k2a k2b k2c k2d k2e k2z
        have k2z := K2.out.lt
        obtain ⟨k2a, k2b, k2c, k2d, k2e⟩ := K2.out.cell
        try clear k3a k3b k3c k3d k3z
        have k3z := K3.out.lt
        obtain ⟨k3a, k3b, k3c, k3d⟩ := K3.out.cell
        clear b
        go_wp2_with fail
        refine ((HPl.out _)).mono ?_
        rintro e w1 ⟨rfl, b⟩
        have Sw1 := Lib.hid b.size
        have HB := Lib.hid (chain0 (w := w) (by repeat (first | with_reducible exact Below.refl _ _ | with_reducible exact HB.out | with_reducible apply Below.drew | with_reducible apply bdN | with_reducible refine Below.alloc ?_ (by first | exact Nat.le_refl _ | with_reducible exact HB.out.size | omega | (simp; done) | (simp; omega) | (have := HB.out.size; simp at *; omega)) _ | with_reducible refine Below.setCell ?_ (by first | exact Nat.le_refl _ | with_reducible exact HB.out.size | omega | (simp; done) | (simp; omega) | (have := HB.out.size; simp at *; omega)) _)) b)
        have HR := Lib.hid (Rd.below (by repeat (first | with_reducible exact HR.out | with_reducible apply Rd.drewN | with_reducible apply Rd.drew | with_reducible apply Rd.alloc)) b)
        have K2 : Hid (GBox _ (w.heap.size) (⟨27, s, nx, .slice p n c, .slice ps ns cs, .slice pw nw cw⟩)) := Lib.hid (GBox.below (by repeat (first | with_reducible exact K2.out | with_reducible apply GBox.drewN | with_reducible apply GBox.drew | (with_reducible refine GBox.newAt ?_ ?_ <;> first | (simp; done) | rfl) | with_reducible apply GBox.alloc)) b)
        have K3 : Hid (CBox _ (w.heap.size + 1) (⟨45, cl⟩)) := Lib.hid (CBox.below (by repeat (first | with_reducible exact K3.out | with_reducible apply CBox.drewN | with_reducible apply CBox.drew | (with_reducible refine CBox.newAt ?_ ?_ <;> first | (simp; done) | rfl) | with_reducible apply CBox.alloc)) b)
        try clear k2a k2b k2c k2d k2e k2z
        have k2z := K2.out.lt
        obtain ⟨k2a, k2b, k2c, k2d, k2e⟩ := K2.out.cell
        try clear k3a k3b k3c k3d k3z
        have k3z := K3.out.lt
        obtain ⟨k3a, k3b, k3c, k3d⟩ := K3.out.cell
        clear b
        go_wp2_with fail
        refine ((HLi.out _ HR.out)).mono ?_
        rintro e w2 ⟨rfl, b⟩
        have Sw2 := Lib.hid b.size
        have HB := Lib.hid (chain0 (w := w) (by repeat (first | with_reducible exact Below.refl _ _ | with_reducible exact HB.out | with_reducible apply Below.drew | with_reducible apply bdN | with_reducible refine Below.alloc ?_ (by first | exact Nat.le_refl _ | with_reducible exact HB.out.size | omega | (simp; done) | (simp; omega) | (have := HB.out.size; simp at *; omega)) _ | with_reducible refine Below.setCell ?_ (by first | exact Nat.le_refl _ | with_reducible exact HB.out.size | omega | (simp; done) | (simp; omega) | (have := HB.out.size; simp at *; omega)) _)) b)
        have HR := Lib.hid (Rd.below (by repeat (first | with_reducible exact HR.out | with_reducible apply Rd.drewN | with_reducible apply Rd.drew | with_reducible apply Rd.alloc)) b)
        have K2 : Hid (GBox _ (w.heap.size) (⟨27, s, nx, .slice p n c, .slice ps ns cs, .slice pw nw cw⟩)) := Lib.hid (GBox.below (by repeat (first | with_reducible exact K2.out | with_reducible apply GBox.drewN | with_reducible apply GBox.drew | (with_reducible refine GBox.newAt ?_ ?_ <;> first | (simp; done) | rfl) | with_reducible apply GBox.alloc)) b)
        have K3 : Hid (CBox _ (w.heap.size + 1) (⟨45, cl⟩)) := Lib.hid (CBox.below (by repeat (first | with_reducible exact K3.out | with_reducible apply CBox.drewN | with_reducible apply CBox.drew | (with_reducible refine CBox.newAt ?_ ?_ <;> first | (simp; done) | rfl) | with_reducible apply CBox.alloc)) b)
        try clear k2a k2b k2c k2d k2e k2z
        have k2z := K2.out.lt
        obtain ⟨k2a, k2b, k2c, k2d, k2e⟩ := K2.out.cell
        try clear k3a k3b k3c k3d k3z
        have k3z := K3.out.lt
        obtain ⟨k3a, k3b, k3c, k3d⟩ := K3.out.cell
        clear b
        go_wp2_with fail
        refine wp_loop_rounds 4 ?_
        rw [rounds_succ]
        go_wp2_with fail
        have qk2a := fun d os => cell_regrown k2a d os
        have qk2b := fun d os => cell_regrown k2b d os
        have qk2c := fun d os => cell_regrown k2c d os
        have qk2d := fun d os => cell_regrown k2d d os
        have qk2e := fun d os => cell_regrown k2e d os
        have qk3a := fun d os => cell_regrown k3a d os
        have qk3b := fun d os => cell_regrown k3b d os
        have qk3c := fun d os => cell_regrown k3c d os
        have qk3d := fun d os => cell_regrown k3d d os
        refine wp_region_quiet_below (by kernel_rfl) (by kernel_rfl) ?_
        repeat (first | go_big_quiet_step ((go_at_call 54; first | with_reducible exact Calls.regrown_of (HC0.out _))) | quiet_step ((go_at_call 54; first | with_reducible exact Calls.regrown_of (HC0.out _))))
        refine wpQuiet_nil ?_
        intro v0 hw2
        have b : Below w2.heap.size w2 v0 := by obtain ⟨r, hr⟩ := hw2; rw [hr]; exact below_regrown _ _ _
        clear hw2 qk2a qk2b qk2c qk3a qk3b qk3c
        have Sv0 := Lib.hid b.size
        have HB := Lib.hid (chain0 (w := w) (by repeat (first | with_reducible exact Below.refl _ _ | with_reducible exact HB.out | with_reducible apply Below.drew | with_reducible apply bdN | with_reducible refine Below.alloc ?_ (by first | exact Nat.le_refl _ | with_reducible exact HB.out.size | omega | (simp; done) | (simp; omega) | (have := HB.out.size; simp at *; omega)) _ | with_reducible refine Below.setCell ?_ (by first | exact Nat.le_refl _ | with_reducible exact HB.out.size | omega | (simp; done) | (simp; omega) | (have := HB.out.size; simp at *; omega)) _)) b)
        have HR := Lib.hid (Rd.below (by repeat (first | with_reducible exact HR.out | with_reducible apply Rd.drewN | with_reducible apply Rd.drew | with_reducible apply Rd.alloc)) b)
        have K2 : Hid (GBox _ (w.heap.size) (⟨27, s, nx, .slice p n c, .slice ps ns cs, .slice pw nw cw⟩)) := Lib.hid (GBox.below (by repeat (first | with_reducible exact K2.out | with_reducible apply GBox.drewN | with_reducible apply GBox.drew | (with_reducible refine GBox.newAt ?_ ?_ <;> first | (simp; done) | rfl) | with_reducible apply GBox.alloc)) b)
        have K3 : Hid (CBox _ (w.heap.size + 1) (⟨45, cl⟩)) := Lib.hid (CBox.below (by repeat (first | with_reducible exact K3.out | with_reducible apply CBox.drewN | with_reducible apply CBox.drew | (with_reducible refine CBox.newAt ?_ ?_ <;> first | (simp; done) | rfl) | with_reducible apply CBox.alloc)) b)
        try clear k2a k2b k2c k2d k2e k2z
        have k2z := K2.out.lt
        obtain ⟨k2a, k2b, k2c, k2d, k2e⟩ := K2.out.cell
        try clear k3a k3b k3c k3d k3z
        have k3z := K3.out.lt
        obtain ⟨k3a, k3b, k3c, k3d⟩ := K3.out.cell
        clear b
        go_wp2_with fail
        go_ret
        exact ⟨rfl, by repeat (first | with_reducible exact Below.refl _ _ | with_reducible exact HB.out | with_reducible apply Below.drew | with_reducible apply bdN | with_reducible refine Below.alloc ?_ (by first | exact Nat.le_refl _ | with_reducible exact HB.out.size | omega | (simp; done) | (simp; omega) | (have := HB.out.size; simp at *; omega)) _ | with_reducible refine Below.setCell ?_ (by first | exact Nat.le_refl _ | with_reducible exact HB.out.size | omega | (simp; done) | (simp; omega) | (have := HB.out.size; simp at *; omega)) _)⟩
    · have HT := Lib.hid (kind_r ((right_p (l := l) H2.out).trans H1.out))
      rw [HT.out]
      go_enter Try.func68, Try.ntmps68
      go_upto_region 1 with fail
      obtain ⟨w0, ew, b⟩ : ∃ wOPN : World, wOPN = ((w.alloc (Gv.obj ⟨27, s, nx, .slice p n c, .slice ps ns cs, .slice pw nw cw⟩)).alloc (Cv.obj ⟨45, cl⟩)) ∧ Below (((w.alloc (Gv.obj ⟨27, s, nx, .slice p n c, .slice ps ns cs, .slice pw nw cw⟩)).alloc (Cv.obj ⟨45, cl⟩))).heap.size (((w.alloc (Gv.obj ⟨27, s, nx, .slice p n c, .slice ps ns cs, .slice pw nw cw⟩)).alloc (Cv.obj ⟨45, cl⟩))) wOPN := ⟨_, rfl, Below.refl _ _⟩
      rw [← ew]
      clear ew
      have Sw0 := Lib.hid b.size
      have HB := Lib.hid (chain0 (w := w) (by repeat (first | with_reducible exact Below.refl _ _ | with_reducible exact HB.out | with_reducible apply Below.drew | with_reducible apply bdN | with_reducible refine Below.alloc ?_ (by first | exact Nat.le_refl _ | with_reducible exact HB.out.size | omega | (simp; done) | (simp; omega) | (have := HB.out.size; simp at *; omega)) _ | with_reducible refine Below.setCell ?_ (by first | exact Nat.le_refl _ | with_reducible exact HB.out.size | omega | (simp; done) | (simp; omega) | (have := HB.out.size; simp at *; omega)) _)) b)
      have HR := Lib.hid (Rd.below (by repeat (first | with_reducible exact HR.out | with_reducible apply Rd.drewN | with_reducible apply Rd.drew | with_reducible apply Rd.alloc)) b)
      have K2 : Hid (GBox _ (w.heap.size) (⟨27, s, nx, .slice p n c, .slice ps ns cs, .slice pw nw cw⟩)) := Lib.hid (GBox.below (by repeat (first | with_reducible exact K2.out | with_reducible apply GBox.drewN | with_reducible apply GBox.drew | (with_reducible refine GBox.newAt ?_ ?_ <;> first | (simp; done) | rfl) | with_reducible apply GBox.alloc)) b)
      have K3 : Hid (CBox _ (w.heap.size + 1) (⟨45, cl⟩)) := Lib.hid (CBox.below (by repeat (first | with_reducible exact K3.out | with_reducible apply CBox.drewN | with_reducible apply CBox.drew | (with_reducible refine CBox.newAt ?_ ?_ <;> first | (simp; done) | rfl) | with_reducible apply CBox.alloc)) b)
      try clear k2a k2b k2c k2d k2e k2z
      have k2z := K2.out.lt
      obtain ⟨k2a, k2b, k2c, k2d, k2e⟩ := K2.out.cell
      try clear k3a k3b k3c k3d k3z
      have k3z := K3.out.lt
      obtain ⟨k3a, k3b, k3c, k3d⟩ := K3.out.cell
      clear b
      go_wp2_with fail
      refine ((HPl.out _)).mono ?_
      rintro e w1 ⟨rfl, b⟩
      have Sw1 := Lib.hid b.size
      have HB := Lib.hid (chain0 (w := w) (by repeat (first | with_reducible exact Below.refl _ _ | with_reducible exact HB.out | with_reducible apply Below.drew | with_reducible apply bdN | with_reducible refine Below.alloc ?_ (by first | exact Nat.le_refl _ | with_reducible exact HB.out.size | omega | (simp; done) | (simp; omega) | (have := HB.out.size; simp at *; omega)) _ | with_reducible refine Below.setCell ?_ (by first | exact Nat.le_refl _ | with_reducible exact HB.out.size | omega | (simp; done) | (simp; omega) | (have := HB.out.size; simp at *; omega)) _)) b)
      have HR := Lib.hid (Rd.below (by repeat (first | with_reducible exact HR.out | with_reducible apply Rd.drewN | with_reducible apply Rd.drew | with_reducible apply Rd.alloc)) b)
      have K2 : Hid (GBox _ (w.heap.size) (⟨27, s, nx, .slice p n c, .slice ps ns cs, .slice pw nw cw⟩)) := Lib.hid (GBox.below (by repeat (first | with_reducible exact K2.out | with_reducible apply GBox.drewN | with_reducible apply GBox.drew | (with_reducible refine GBox.newAt ?_ ?_ <;> first | (simp; done) | rfl) | with_reducible apply GBox.alloc)) b)
      have K3 : Hid (CBox _ (w.heap.size + 1) (⟨45, cl⟩)) := Lib.hid (CBox.below (by repeat (first | with_reducible exact K3.out | with_reducible apply CBox.drewN | with_reducible apply CBox.drew | (with_reducible refine CBox.newAt ?_ ?_ <;> first | (simp; done) | rfl) | with_reducible apply CBox.alloc)) b)
      try clear k2a k2b k2c k2d k2e k2z
      have k2z := K2.out.lt
      obtain ⟨k2a, k2b, k2c, k2d, k2e⟩ := K2.out.cell
      try clear k3a k3b k3c k3d k3z
      have k3z := K3.out.lt
      obtain ⟨k3a, k3b, k3c, k3d⟩ := K3.out.cell
      clear b
      go_wp2_with fail
      refine ((HLi.out _ HR.out)).mono ?_
      rintro e w2 ⟨rfl, b⟩
      have Sw2 := Lib.hid b.size
      have HB := Lib.hid (chain0 (w := w) (by repeat (first | with_reducible exact Below.refl _ _ | with_reducible exact HB.out | with_reducible apply Below.drew | with_reducible apply bdN | with_reducible refine Below.alloc ?_ (by first | exact Nat.le_refl _ | with_reducible exact HB.out.size | omega | (simp; done) | (simp; omega) | (have := HB.out.size; simp at *; omega)) _ | with_reducible refine Below.setCell ?_ (by first | exact Nat.le_refl _ | with_reducible exact HB.out.size | omega | (simp; done) | (simp; omega) | (have := HB.out.size; simp at *; omega)) _)) b)
      have HR := Lib.hid (Rd.below (by repeat (first | with_reducible exact HR.out | with_reducible apply Rd.drewN | with_reducible apply Rd.drew | with_reducible apply Rd.alloc)) b)
      have K2 : Hid (GBox _ (w.heap.size) (⟨27, s, nx, .slice p n c, .slice ps ns cs, .slice pw nw cw⟩)) := Lib.hid (GBox.below (by repeat (first | with_reducible exact K2.out | with_reducible apply GBox.drewN | with_reducible apply GBox.drew | (with_reducible refine GBox.newAt ?_ ?_ <;> first | (simp; done) | rfl) | with_reducible apply GBox.alloc)) b)
      have K3 : Hid (CBox _ (w.heap.size + 1) (⟨45, cl⟩)) := Lib.hid (CBox.below (by repeat (first | with_reducible exact K3.out | with_reducible apply CBox.drewN | with_reducible apply CBox.drew | (with_reducible refine CBox.newAt ?_ ?_ <;> first | (simp; done) | rfl) | with_reducible apply CBox.alloc)) b)
      try clear k2a k2b k2c k2d k2e k2z
      have k2z := K2.out.lt
      obtain ⟨k2a, k2b, k2c, k2d, k2e⟩ := K2.out.cell
      try clear k3a k3b k3c k3d k3z
      have k3z := K3.out.lt
      obtain ⟨k3a, k3b, k3c, k3d⟩ := K3.out.cell
      clear b
      go_wp2_with fail
      go_ret
      exact ⟨rfl, by repeat (first | with_reducible exact Below.refl _ _ | with_reducible exact HB.out | with_reducible apply Below.drew | with_reducible apply bdN | with_reducible refine Below.alloc ?_ (by first | exact Nat.le_refl _ | with_reducible exact HB.out.size | omega | (simp; done) | (simp; omega) | (have := HB.out.size; simp at *; omega)) _ | with_reducible refine Below.setCell ?_ (by first | exact Nat.le_refl _ | with_reducible exact HB.out.size | omega | (simp; done) | (simp; omega) | (have := HB.out.size; simp at *; omega)) _)⟩
end Go.Proofs.Yteccbcbijfcpmaa.game

/- IsGame, LinesAhead, PointsOf: the exported functions, the program's and the model's. -/
namespace Go.Proofs.Yteccbcbijfcpmaa.game
open Go.RowKit
open cards deal
set_option linter.unusedVariables false

set_option maxHeartbeats 1000000 in
theorem spec_isgame (g : Gm) (p ps pw : Option Addr) (n c ns cs nw cw : Nat) (w : World) (hf : FitG n c ns cs nw cw p ps pw g) (hr : RdG w p ps pw g.l g.sc g.wr) :
    Calls Try.prog 21 #[gval g.s g.nx (.slice p n c) (.slice ps ns cs) (.slice pw nw cw)] w fun e w' => e = .returned (.bool g.ok) ∧ Below w.heap.size w w' := by
  have HR := Lib.hid hr
  have HC := Lib.hid (fun w h => l8_game g p ps pw n c ns cs nw cw w hf h)
  obtain ⟨ok, hok⟩ : ∃ ok, g.ok = ok := ⟨_, rfl⟩
  rw [hok] at HC ⊢
  clear hf hr hok
  go_enter Try.func21, Try.ntmps21
  go_wp2_with fail
  refine ((HC.out _ (RdG.alloc HR.out _))).mono ?_
  rintro e w1 ⟨rfl, b⟩
  have Sw1 := Lib.hid b.size
  have HB := Lib.hid (chain0 (w := w) (by repeat (first | with_reducible exact Below.refl _ _ | with_reducible exact HB.out | with_reducible apply Below.drew | with_reducible apply bdN | with_reducible refine Below.alloc ?_ (by first | exact Nat.le_refl _ | with_reducible exact HB.out.size | omega | (simp; done) | (simp; omega) | (have := HB.out.size; simp at *; omega)) _ | with_reducible refine Below.setCell ?_ (by first | exact Nat.le_refl _ | with_reducible exact HB.out.size | omega | (simp; done) | (simp; omega) | (have := HB.out.size; simp at *; omega)) _)) b)
  have HR := Lib.hid (RdG.below (by repeat (first | with_reducible exact HR.out | with_reducible apply RdG.drewN | with_reducible apply RdG.drew | with_reducible apply RdG.alloc)) b)
  clear b
  go_wp2_with fail
  go_ret
  exact ⟨rfl, by repeat (first | with_reducible exact Below.refl _ _ | with_reducible exact HB.out | with_reducible apply Below.drew | with_reducible apply bdN | with_reducible refine Below.alloc ?_ (by first | exact Nat.le_refl _ | with_reducible exact HB.out.size | omega | (simp; done) | (simp; omega) | (have := HB.out.size; simp at *; omega)) _ | with_reducible refine Below.setCell ?_ (by first | exact Nat.le_refl _ | with_reducible exact HB.out.size | omega | (simp; done) | (simp; omega) | (have := HB.out.size; simp at *; omega)) _)⟩

/-! Lines ahead. -/
noncomputable def laR (g : Gm) : Int × Bool := if g.ok = true then (ahead g.d, true) else (0, false)
set_option maxRecDepth 100000 in
set_option maxHeartbeats 1000000 in
theorem impl_la (g : Gm) (p ps pw : Option Addr) (n c ns cs nw cw : Nat) (w : World) (hf : FitG n c ns cs nw cw p ps pw g) (hr : RdG w p ps pw g.l g.sc g.wr) :
    Calls Try.prog 44 #[gval g.s g.nx (.slice p n c) (.slice ps ns cs) (.slice pw nw cw)] w fun e w' => e = .returned (.tuple #[.int .i64 (laR g).1, .bool (laR g).2]) ∧ Below w.heap.size w w' := by
  have HR := Lib.hid hr
  have HF := Lib.hid hf
  have HC := Lib.hid (fun w h => is_game g p ps pw n c ns cs nw cw w hf h)
  clear hf hr
  cases hok : g.ok
  · have HT := Lib.hid (show laR g = (0, false) by unfold laR; rw [if_neg (by simp [hok])])
    rw [hok] at HC
    rw [HT.out]
    clear hok HT
    obtain ⟨s, nx, l, sc, wt⟩ := g
    simp only at HR HC ⊢
    go_enter Try.func44, Try.ntmps44
    go_wp2_with fail
    refine ((HC.out _ (RdG.alloc HR.out _))).mono ?_
    rintro e w1 ⟨rfl, b⟩
    have Sw1 := Lib.hid b.size
    have HB := Lib.hid (chain0 (w := w) (by repeat (first | with_reducible exact Below.refl _ _ | with_reducible exact HB.out | with_reducible apply Below.drew | with_reducible apply bdN | with_reducible refine Below.alloc ?_ (by first | exact Nat.le_refl _ | with_reducible exact HB.out.size | omega | (simp; done) | (simp; omega) | (have := HB.out.size; simp at *; omega)) _ | with_reducible refine Below.setCell ?_ (by first | exact Nat.le_refl _ | with_reducible exact HB.out.size | omega | (simp; done) | (simp; omega) | (have := HB.out.size; simp at *; omega)) _)) b)
    have HR := Lib.hid (RdG.below (by repeat (first | with_reducible exact HR.out | with_reducible apply RdG.drewN | with_reducible apply RdG.drew | with_reducible apply RdG.alloc)) b)
    have K1 : Hid (GBox _ (w.heap.size) (⟨27, s, nx, .slice p n c, .slice ps ns cs, .slice pw nw cw⟩)) := Lib.hid (GBox.below (by repeat (first | with_reducible exact K1.out | with_reducible apply GBox.drewN | with_reducible apply GBox.drew | (with_reducible refine GBox.newAt ?_ ?_ <;> first | (simp; done) | rfl) | with_reducible apply GBox.alloc)) b)
    try clear k1a k1b k1c k1d k1e k1z
    have k1z := K1.out.lt
    obtain ⟨k1a, k1b, k1c, k1d, k1e⟩ := K1.out.cell
    clear b
    go_wp2_with fail
    go_ret2
    exact ⟨rfl, by repeat (first | with_reducible exact Below.refl _ _ | with_reducible exact HB.out | with_reducible apply Below.drew | with_reducible apply bdN | with_reducible refine Below.alloc ?_ (by first | exact Nat.le_refl _ | with_reducible exact HB.out.size | omega | (simp; done) | (simp; omega) | (have := HB.out.size; simp at *; omega)) _ | with_reducible refine Below.setCell ?_ (by first | exact Nat.le_refl _ | with_reducible exact HB.out.size | omega | (simp; done) | (simp; omega) | (have := HB.out.size; simp at *; omega)) _)⟩
  · have HO := Lib.hid (Gm.ok_iff.1 hok)
    have HT := Lib.hid (show laR g = (((n : Int) + 81 - g.nx) / 3, true) by unfold laR; rw [if_pos hok]; unfold ahead Gm.d; simp only; rw [HF.out.hn])
    have hn : n ≤ 81 := by have h := HO.out.d.len81; have h2 := HF.out.hn; have h3 : g.l.length ≤ 81 := h; omega
    have hx := HO.out.d.2.1
    have hx1 : 0 ≤ g.nx := hx.1
    have hx2 : g.nx ≤ 81 := hx.2
    rw [hok] at HC
    rw [HT.out]
    clear hok HT hx
    obtain ⟨s, nx, l, sc, wt⟩ := g
    simp only at HR HC hx1 hx2 ⊢
    have HL := Lib.hid (fun w => lines_ahead s nx p n c w hn hx1 hx2)
    obtain ⟨v, hv⟩ : ∃ v, ((n : Int) + 81 - nx) / 3 = v := ⟨_, rfl⟩
    rw [hv] at HL ⊢
    clear hv
    go_enter Try.func44, Try.ntmps44
    go_wp2_with fail
    refine ((HC.out _ (RdG.alloc HR.out _))).mono ?_
    rintro e w1 ⟨rfl, b⟩
    have Sw1 := Lib.hid b.size
    have HB := Lib.hid (chain0 (w := w) (by repeat (first | with_reducible exact Below.refl _ _ | with_reducible exact HB.out | with_reducible apply Below.drew | with_reducible apply bdN | with_reducible refine Below.alloc ?_ (by first | exact Nat.le_refl _ | with_reducible exact HB.out.size | omega | (simp; done) | (simp; omega) | (have := HB.out.size; simp at *; omega)) _ | with_reducible refine Below.setCell ?_ (by first | exact Nat.le_refl _ | with_reducible exact HB.out.size | omega | (simp; done) | (simp; omega) | (have := HB.out.size; simp at *; omega)) _)) b)
    have HR := Lib.hid (RdG.below (by repeat (first | with_reducible exact HR.out | with_reducible apply RdG.drewN | with_reducible apply RdG.drew | with_reducible apply RdG.alloc)) b)
    have K1 : Hid (GBox _ (w.heap.size) (⟨27, s, nx, .slice p n c, .slice ps ns cs, .slice pw nw cw⟩)) := Lib.hid (GBox.below (by repeat (first | with_reducible exact K1.out | with_reducible apply GBox.drewN | with_reducible apply GBox.drew | (with_reducible refine GBox.newAt ?_ ?_ <;> first | (simp; done) | rfl) | with_reducible apply GBox.alloc)) b)
    try clear k1a k1b k1c k1d k1e k1z
    have k1z := K1.out.lt
    obtain ⟨k1a, k1b, k1c, k1d, k1e⟩ := K1.out.cell
    clear b
    go_wp2_with fail
    refine ((HL.out _)).mono ?_
    rintro e w2 ⟨rfl, b⟩
    have Sw2 := Lib.hid b.size
    have HB := Lib.hid (chain0 (w := w) (by repeat (first | with_reducible exact Below.refl _ _ | with_reducible exact HB.out | with_reducible apply Below.drew | with_reducible apply bdN | with_reducible refine Below.alloc ?_ (by first | exact Nat.le_refl _ | with_reducible exact HB.out.size | omega | (simp; done) | (simp; omega) | (have := HB.out.size; simp at *; omega)) _ | with_reducible refine Below.setCell ?_ (by first | exact Nat.le_refl _ | with_reducible exact HB.out.size | omega | (simp; done) | (simp; omega) | (have := HB.out.size; simp at *; omega)) _)) b)
    have HR := Lib.hid (RdG.below (by repeat (first | with_reducible exact HR.out | with_reducible apply RdG.drewN | with_reducible apply RdG.drew | with_reducible apply RdG.alloc)) b)
    have K1 : Hid (GBox _ (w.heap.size) (⟨27, s, nx, .slice p n c, .slice ps ns cs, .slice pw nw cw⟩)) := Lib.hid (GBox.below (by repeat (first | with_reducible exact K1.out | with_reducible apply GBox.drewN | with_reducible apply GBox.drew | (with_reducible refine GBox.newAt ?_ ?_ <;> first | (simp; done) | rfl) | with_reducible apply GBox.alloc)) b)
    try clear k1a k1b k1c k1d k1e k1z
    have k1z := K1.out.lt
    obtain ⟨k1a, k1b, k1c, k1d, k1e⟩ := K1.out.cell
    clear b
    go_wp2_with fail
    go_ret2
    exact ⟨rfl, by repeat (first | with_reducible exact Below.refl _ _ | with_reducible exact HB.out | with_reducible apply Below.drew | with_reducible apply bdN | with_reducible refine Below.alloc ?_ (by first | exact Nat.le_refl _ | with_reducible exact HB.out.size | omega | (simp; done) | (simp; omega) | (have := HB.out.size; simp at *; omega)) _ | with_reducible refine Below.setCell ?_ (by first | exact Nat.le_refl _ | with_reducible exact HB.out.size | omega | (simp; done) | (simp; omega) | (have := HB.out.size; simp at *; omega)) _)⟩
set_option maxRecDepth 100000 in
set_option maxHeartbeats 1000000 in
theorem spec_la (g : Gm) (p ps pw : Option Addr) (n c ns cs nw cw : Nat) (w : World) (hf : FitG n c ns cs nw cw p ps pw g) (hr : RdG w p ps pw g.l g.sc g.wr) :
    Calls Try.prog 43 #[gval g.s g.nx (.slice p n c) (.slice ps ns cs) (.slice pw nw cw)] w fun e w' => e = .returned (.tuple #[.int .i64 (laR g).1, .bool (laR g).2]) ∧ Below w.heap.size w w' := by
  have HR := Lib.hid hr
  have HF := Lib.hid hf
  have HC := Lib.hid (fun w h => l8_game g p ps pw n c ns cs nw cw w hf h)
  clear hf hr
  cases hok : g.ok
  · have HT := Lib.hid (show laR g = (0, false) by unfold laR; rw [if_neg (by simp [hok])])
    rw [hok] at HC
    rw [HT.out]
    clear hok HT
    obtain ⟨s, nx, l, sc, wt⟩ := g
    simp only at HR HC ⊢
    go_enter Try.func43, Try.ntmps43
    go_wp2_with fail
    refine ((HC.out _ (RdG.alloc HR.out _))).mono ?_
    rintro e w1 ⟨rfl, b⟩
    have Sw1 := Lib.hid b.size
    have HB := Lib.hid (chain0 (w := w) (by repeat (first | with_reducible exact Below.refl _ _ | with_reducible exact HB.out | with_reducible apply Below.drew | with_reducible apply bdN | with_reducible refine Below.alloc ?_ (by first | exact Nat.le_refl _ | with_reducible exact HB.out.size | omega | (simp; done) | (simp; omega) | (have := HB.out.size; simp at *; omega)) _ | with_reducible refine Below.setCell ?_ (by first | exact Nat.le_refl _ | with_reducible exact HB.out.size | omega | (simp; done) | (simp; omega) | (have := HB.out.size; simp at *; omega)) _)) b)
    have HR := Lib.hid (RdG.below (by repeat (first | with_reducible exact HR.out | with_reducible apply RdG.drewN | with_reducible apply RdG.drew | with_reducible apply RdG.alloc)) b)
    have K1 : Hid (GBox _ (w.heap.size) (⟨27, s, nx, .slice p n c, .slice ps ns cs, .slice pw nw cw⟩)) := Lib.hid (GBox.below (by repeat (first | with_reducible exact K1.out | with_reducible apply GBox.drewN | with_reducible apply GBox.drew | (with_reducible refine GBox.newAt ?_ ?_ <;> first | (simp; done) | rfl) | with_reducible apply GBox.alloc)) b)
    try clear k1a k1b k1c k1d k1e k1z
    have k1z := K1.out.lt
    obtain ⟨k1a, k1b, k1c, k1d, k1e⟩ := K1.out.cell
    clear b
    go_wp2_with fail
    go_ret2
    exact ⟨rfl, by repeat (first | with_reducible exact Below.refl _ _ | with_reducible exact HB.out | with_reducible apply Below.drew | with_reducible apply bdN | with_reducible refine Below.alloc ?_ (by first | exact Nat.le_refl _ | with_reducible exact HB.out.size | omega | (simp; done) | (simp; omega) | (have := HB.out.size; simp at *; omega)) _ | with_reducible refine Below.setCell ?_ (by first | exact Nat.le_refl _ | with_reducible exact HB.out.size | omega | (simp; done) | (simp; omega) | (have := HB.out.size; simp at *; omega)) _)⟩
  · have HO := Lib.hid (Gm.ok_iff.1 hok)
    have HT := Lib.hid (show laR g = (((n : Int) + 81 - g.nx) / 3, true) by unfold laR; rw [if_pos hok]; unfold ahead Gm.d; simp only; rw [HF.out.hn])
    have hn : n ≤ 81 := by have h := HO.out.d.len81; have h2 := HF.out.hn; have h3 : g.l.length ≤ 81 := h; omega
    have hx := HO.out.d.2.1
    have hx1 : 0 ≤ g.nx := hx.1
    have hx2 : g.nx ≤ 81 := hx.2
    rw [hok] at HC
    rw [HT.out]
    clear hok HT hx
    obtain ⟨s, nx, l, sc, wt⟩ := g
    simp only at HR HC hx1 hx2 ⊢
    have HL := Lib.hid (fun w => l8_ahead s nx p ps pw n c ns cs nw cw w hn hx1 hx2)
    obtain ⟨v, hv⟩ : ∃ v, ((n : Int) + 81 - nx) / 3 = v := ⟨_, rfl⟩
    rw [hv] at HL ⊢
    clear hv
    go_enter Try.func43, Try.ntmps43
    go_wp2_with fail
    refine ((HC.out _ (RdG.alloc HR.out _))).mono ?_
    rintro e w1 ⟨rfl, b⟩
    have Sw1 := Lib.hid b.size
    have HB := Lib.hid (chain0 (w := w) (by repeat (first | with_reducible exact Below.refl _ _ | with_reducible exact HB.out | with_reducible apply Below.drew | with_reducible apply bdN | with_reducible refine Below.alloc ?_ (by first | exact Nat.le_refl _ | with_reducible exact HB.out.size | omega | (simp; done) | (simp; omega) | (have := HB.out.size; simp at *; omega)) _ | with_reducible refine Below.setCell ?_ (by first | exact Nat.le_refl _ | with_reducible exact HB.out.size | omega | (simp; done) | (simp; omega) | (have := HB.out.size; simp at *; omega)) _)) b)
    have HR := Lib.hid (RdG.below (by repeat (first | with_reducible exact HR.out | with_reducible apply RdG.drewN | with_reducible apply RdG.drew | with_reducible apply RdG.alloc)) b)
    have K1 : Hid (GBox _ (w.heap.size) (⟨27, s, nx, .slice p n c, .slice ps ns cs, .slice pw nw cw⟩)) := Lib.hid (GBox.below (by repeat (first | with_reducible exact K1.out | with_reducible apply GBox.drewN | with_reducible apply GBox.drew | (with_reducible refine GBox.newAt ?_ ?_ <;> first | (simp; done) | rfl) | with_reducible apply GBox.alloc)) b)
    try clear k1a k1b k1c k1d k1e k1z
    have k1z := K1.out.lt
    obtain ⟨k1a, k1b, k1c, k1d, k1e⟩ := K1.out.cell
    clear b
    go_wp2_with fail
    refine ((HL.out _)).mono ?_
    rintro e w2 ⟨rfl, b⟩
    have Sw2 := Lib.hid b.size
    have HB := Lib.hid (chain0 (w := w) (by repeat (first | with_reducible exact Below.refl _ _ | with_reducible exact HB.out | with_reducible apply Below.drew | with_reducible apply bdN | with_reducible refine Below.alloc ?_ (by first | exact Nat.le_refl _ | with_reducible exact HB.out.size | omega | (simp; done) | (simp; omega) | (have := HB.out.size; simp at *; omega)) _ | with_reducible refine Below.setCell ?_ (by first | exact Nat.le_refl _ | with_reducible exact HB.out.size | omega | (simp; done) | (simp; omega) | (have := HB.out.size; simp at *; omega)) _)) b)
    have HR := Lib.hid (RdG.below (by repeat (first | with_reducible exact HR.out | with_reducible apply RdG.drewN | with_reducible apply RdG.drew | with_reducible apply RdG.alloc)) b)
    have K1 : Hid (GBox _ (w.heap.size) (⟨27, s, nx, .slice p n c, .slice ps ns cs, .slice pw nw cw⟩)) := Lib.hid (GBox.below (by repeat (first | with_reducible exact K1.out | with_reducible apply GBox.drewN | with_reducible apply GBox.drew | (with_reducible refine GBox.newAt ?_ ?_ <;> first | (simp; done) | rfl) | with_reducible apply GBox.alloc)) b)
    try clear k1a k1b k1c k1d k1e k1z
    have k1z := K1.out.lt
    obtain ⟨k1a, k1b, k1c, k1d, k1e⟩ := K1.out.cell
    clear b
    go_wp2_with fail
    go_ret2
    exact ⟨rfl, by repeat (first | with_reducible exact Below.refl _ _ | with_reducible exact HB.out | with_reducible apply Below.drew | with_reducible apply bdN | with_reducible refine Below.alloc ?_ (by first | exact Nat.le_refl _ | with_reducible exact HB.out.size | omega | (simp; done) | (simp; omega) | (have := HB.out.size; simp at *; omega)) _ | with_reducible refine Below.setCell ?_ (by first | exact Nat.le_refl _ | with_reducible exact HB.out.size | omega | (simp; done) | (simp; omega) | (have := HB.out.size; simp at *; omega)) _)⟩
end Go.Proofs.Yteccbcbijfcpmaa.game

/- ClaimKind: the program's and the model's. -/
namespace Go.Proofs.Yteccbcbijfcpmaa.game
open Go.RowKit
open cards deal
set_option linter.unusedVariables false

noncomputable def ckR (g : Gm) (cl : Cd) : Int × Bool := if g.ok = true then (kind g.l g.sc.length cl, true) else (0, false)
/-- What is known of the slices of a valid Game. -/
structure OkG (g : Gm) (n ns : Nat) : Prop where
  n : n ≤ 81
  ns : 1 ≤ ns ∧ ns ≤ 4
  ok : g.l.all Cd.ok = true
  nd : g.l.Nodup
theorem okG {g : Gm} {n c ns cs nw cw : Nat} {p ps pw : Option Addr} (hf : FitG n c ns cs nw cw p ps pw g) (h : g.okP) : OkG g n ns :=
  ⟨by have h1 := h.d.len81; have h2 := hf.hn; have h3 : g.l.length ≤ 81 := h1; omega, by have h1 := h.p1; have h2 := h.p4; have h3 := hf.hs; omega, h.d.cards, h.d.2.2.2⟩

set_option maxRecDepth 100000 in
set_option maxHeartbeats 2000000 in
theorem impl_ck (g : Gm) (cl : Cd) (p ps pw : Option Addr) (n c ns cs nw cw : Nat) (w : World) (hf : FitG n c ns cs nw cw p ps pw g) (hr : RdG w p ps pw g.l g.sc g.wr) (hw : wfc cl) :
    Calls Try.prog 26 #[gval g.s g.nx (.slice p n c) (.slice ps ns cs) (.slice pw nw cw), cl.val] w fun e w' => e = .returned (.tuple #[.int .i64 (ckR g cl).1, .bool (ckR g cl).2]) ∧ Below w.heap.size w w' := by
  have HR := Lib.hid hr
  have HF := Lib.hid hf
  have HC := Lib.hid (fun w h => is_game g p ps pw n c ns cs nw cw w hf h)
  have K3 : Hid (CBox ((w.alloc (Gv.obj ⟨27, g.s, g.nx, .slice p n c, .slice ps ns cs, .slice pw nw cw⟩)).alloc (Cv.obj ⟨45, cl⟩)) (w.heap.size + 1) ⟨45, cl⟩) := Lib.hid (CBox.newAt (by simp) rfl)
  cases hok : g.ok
  · have HT := Lib.hid (show ckR g cl = (0, false) by unfold ckR; rw [if_neg (by simp [hok])])
    rw [hok] at HC
    rw [HT.out]
    clear hf hr hok HT
    obtain ⟨s, nx, l, sc, wt⟩ := g
    simp only at HR HC K3 ⊢
    go_enter Try.func26, Try.ntmps26
    go_upto_region 1 with fail
    obtain ⟨w0, ew, b⟩ : ∃ wOPN : World, wOPN = ((w.alloc (Gv.obj ⟨27, s, nx, .slice p n c, .slice ps ns cs, .slice pw nw cw⟩)).alloc (Cv.obj ⟨45, cl⟩)) ∧ Below (((w.alloc (Gv.obj ⟨27, s, nx, .slice p n c, .slice ps ns cs, .slice pw nw cw⟩)).alloc (Cv.obj ⟨45, cl⟩))).heap.size (((w.alloc (Gv.obj ⟨27, s, nx, .slice p n c, .slice ps ns cs, .slice pw nw cw⟩)).alloc (Cv.obj ⟨45, cl⟩))) wOPN := ⟨_, rfl, Below.refl _ _⟩
    rw [← ew]
    clear ew
    have Sw0 := Lib.hid b.size
    have HB := Lib.hid (chain0 (w := w) (by repeat (first | with_reducible exact Below.refl _ _ | with_reducible exact HB.out | with_reducible apply Below.drew | with_reducible apply bdN | with_reducible refine Below.alloc ?_ (by first | exact Nat.le_refl _ | with_reducible exact HB.out.size | omega | (simp; done) | (simp; omega) | (have := HB.out.size; simp at *; omega)) _ | with_reducible refine Below.setCell ?_ (by first | exact Nat.le_refl _ | with_reducible exact HB.out.size | omega | (simp; done) | (simp; omega) | (have := HB.out.size; simp at *; omega)) _)) b)
    have HR := Lib.hid (RdG.below (by repeat (first | with_reducible exact HR.out | with_reducible apply RdG.drewN | with_reducible apply RdG.drew | with_reducible apply RdG.alloc)) b)
    have K2 : Hid (GBox _ (w.heap.size) (⟨27, s, nx, .slice p n c, .slice ps ns cs, .slice pw nw cw⟩)) := Lib.hid (GBox.below (by repeat (first | with_reducible exact K2.out | with_reducible apply GBox.drewN | with_reducible apply GBox.drew | (with_reducible refine GBox.newAt ?_ ?_ <;> first | (simp; done) | rfl) | with_reducible apply GBox.alloc)) b)
    have K3 : Hid (CBox _ (w.heap.size + 1) (⟨45, cl⟩)) := Lib.hid (CBox.below (by repeat (first | with_reducible exact K3.out | with_reducible apply CBox.drewN | with_reducible apply CBox.drew | (with_reducible refine CBox.newAt ?_ ?_ <;> first | (simp; done) | rfl) | with_reducible apply CBox.alloc)) b)
    try clear k2a k2b k2c k2d k2e k2z
    have k2z := K2.out.lt
    obtain ⟨k2a, k2b, k2c, k2d, k2e⟩ := K2.out.cell
    try clear k3a k3b k3c k3d k3z
    have k3z := K3.out.lt
    obtain ⟨k3a, k3b, k3c, k3d⟩ := K3.out.cell
    clear b
    go_wp2_with fail
    refine ((HC.out _ HR.out)).mono ?_
    rintro e w1 ⟨rfl, b⟩
    have Sw1 := Lib.hid b.size
    have HB := Lib.hid (chain0 (w := w) (by repeat (first | with_reducible exact Below.refl _ _ | with_reducible exact HB.out | with_reducible apply Below.drew | with_reducible apply bdN | with_reducible refine Below.alloc ?_ (by first | exact Nat.le_refl _ | with_reducible exact HB.out.size | omega | (simp; done) | (simp; omega) | (have := HB.out.size; simp at *; omega)) _ | with_reducible refine Below.setCell ?_ (by first | exact Nat.le_refl _ | with_reducible exact HB.out.size | omega | (simp; done) | (simp; omega) | (have := HB.out.size; simp at *; omega)) _)) b)
    have HR := Lib.hid (RdG.below (by repeat (first | with_reducible exact HR.out | with_reducible apply RdG.drewN | with_reducible apply RdG.drew | with_reducible apply RdG.alloc)) b)
    have K2 : Hid (GBox _ (w.heap.size) (⟨27, s, nx, .slice p n c, .slice ps ns cs, .slice pw nw cw⟩)) := Lib.hid (GBox.below (by repeat (first | with_reducible exact K2.out | with_reducible apply GBox.drewN | with_reducible apply GBox.drew | (with_reducible refine GBox.newAt ?_ ?_ <;> first | (simp; done) | rfl) | with_reducible apply GBox.alloc)) b)
    have K3 : Hid (CBox _ (w.heap.size + 1) (⟨45, cl⟩)) := Lib.hid (CBox.below (by repeat (first | with_reducible exact K3.out | with_reducible apply CBox.drewN | with_reducible apply CBox.drew | (with_reducible refine CBox.newAt ?_ ?_ <;> first | (simp; done) | rfl) | with_reducible apply CBox.alloc)) b)
    try clear k2a k2b k2c k2d k2e k2z
    have k2z := K2.out.lt
    obtain ⟨k2a, k2b, k2c, k2d, k2e⟩ := K2.out.cell
    try clear k3a k3b k3c k3d k3z
    have k3z := K3.out.lt
    obtain ⟨k3a, k3b, k3c, k3d⟩ := K3.out.cell
    clear b
    go_wp2_with fail
    go_ret2
    exact ⟨rfl, by repeat (first | with_reducible exact Below.refl _ _ | with_reducible exact HB.out | with_reducible apply Below.drew | with_reducible apply bdN | with_reducible refine Below.alloc ?_ (by first | exact Nat.le_refl _ | with_reducible exact HB.out.size | omega | (simp; done) | (simp; omega) | (have := HB.out.size; simp at *; omega)) _ | with_reducible refine Below.setCell ?_ (by first | exact Nat.le_refl _ | with_reducible exact HB.out.size | omega | (simp; done) | (simp; omega) | (have := HB.out.size; simp at *; omega)) _)⟩
  · have HO := okG hf (Gm.ok_iff.1 hok)
    have HT := Lib.hid (show ckR g cl = (kind g.l ns cl, true) by unfold ckR; rw [if_pos hok, hf.hs])
    have HK := Lib.hid (fun w h => kind_of g.s g.nx g.l cl p ps pw n c ns cs nw cw w hf.hn HO.n (by have := HO.ns; omega) h HO.ok HO.nd hw)
    obtain ⟨kd, hkd⟩ : ∃ kd, kind g.l ns cl = kd := ⟨_, rfl⟩
    rw [hkd] at HK
    rw [hok] at HC
    rw [HT.out, hkd]
    clear hf hr hok HT HO hkd
    obtain ⟨s, nx, l, sc, wt⟩ := g
    simp only at HR HC HK K3 ⊢
    go_enter Try.func26, Try.ntmps26
    go_upto_region 1 with fail
    obtain ⟨w0, ew, b⟩ : ∃ wOPN : World, wOPN = ((w.alloc (Gv.obj ⟨27, s, nx, .slice p n c, .slice ps ns cs, .slice pw nw cw⟩)).alloc (Cv.obj ⟨45, cl⟩)) ∧ Below (((w.alloc (Gv.obj ⟨27, s, nx, .slice p n c, .slice ps ns cs, .slice pw nw cw⟩)).alloc (Cv.obj ⟨45, cl⟩))).heap.size (((w.alloc (Gv.obj ⟨27, s, nx, .slice p n c, .slice ps ns cs, .slice pw nw cw⟩)).alloc (Cv.obj ⟨45, cl⟩))) wOPN := ⟨_, rfl, Below.refl _ _⟩
    rw [← ew]
    clear ew
    have Sw0 := Lib.hid b.size
    have HB := Lib.hid (chain0 (w := w) (by repeat (first | with_reducible exact Below.refl _ _ | with_reducible exact HB.out | with_reducible apply Below.drew | with_reducible apply bdN | with_reducible refine Below.alloc ?_ (by first | exact Nat.le_refl _ | with_reducible exact HB.out.size | omega | (simp; done) | (simp; omega) | (have := HB.out.size; simp at *; omega)) _ | with_reducible refine Below.setCell ?_ (by first | exact Nat.le_refl _ | with_reducible exact HB.out.size | omega | (simp; done) | (simp; omega) | (have := HB.out.size; simp at *; omega)) _)) b)
    have HR := Lib.hid (RdG.below (by repeat (first | with_reducible exact HR.out | with_reducible apply RdG.drewN | with_reducible apply RdG.drew | with_reducible apply RdG.alloc)) b)
    have K2 : Hid (GBox _ (w.heap.size) (⟨27, s, nx, .slice p n c, .slice ps ns cs, .slice pw nw cw⟩)) := Lib.hid (GBox.below (by repeat (first | with_reducible exact K2.out | with_reducible apply GBox.drewN | with_reducible apply GBox.drew | (with_reducible refine GBox.newAt ?_ ?_ <;> first | (simp; done) | rfl) | with_reducible apply GBox.alloc)) b)
    have K3 : Hid (CBox _ (w.heap.size + 1) (⟨45, cl⟩)) := Lib.hid (CBox.below (by repeat (first | with_reducible exact K3.out | with_reducible apply CBox.drewN | with_reducible apply CBox.drew | (with_reducible refine CBox.newAt ?_ ?_ <;> first | (simp; done) | rfl) | with_reducible apply CBox.alloc)) b)
    try clear k2a k2b k2c k2d k2e k2z
    have k2z := K2.out.lt
    obtain ⟨k2a, k2b, k2c, k2d, k2e⟩ := K2.out.cell
    try clear k3a k3b k3c k3d k3z
    have k3z := K3.out.lt
    obtain ⟨k3a, k3b, k3c, k3d⟩ := K3.out.cell
    clear b
    go_wp2_with fail
    refine ((HC.out _ HR.out)).mono ?_
    rintro e w1 ⟨rfl, b⟩
    have Sw1 := Lib.hid b.size
    have HB := Lib.hid (chain0 (w := w) (by repeat (first | with_reducible exact Below.refl _ _ | with_reducible exact HB.out | with_reducible apply Below.drew | with_reducible apply bdN | with_reducible refine Below.alloc ?_ (by first | exact Nat.le_refl _ | with_reducible exact HB.out.size | omega | (simp; done) | (simp; omega) | (have := HB.out.size; simp at *; omega)) _ | with_reducible refine Below.setCell ?_ (by first | exact Nat.le_refl _ | with_reducible exact HB.out.size | omega | (simp; done) | (simp; omega) | (have := HB.out.size; simp at *; omega)) _)) b)
    have HR := Lib.hid (RdG.below (by repeat (first | with_reducible exact HR.out | with_reducible apply RdG.drewN | with_reducible apply RdG.drew | with_reducible apply RdG.alloc)) b)
    have K2 : Hid (GBox _ (w.heap.size) (⟨27, s, nx, .slice p n c, .slice ps ns cs, .slice pw nw cw⟩)) := Lib.hid (GBox.below (by repeat (first | with_reducible exact K2.out | with_reducible apply GBox.drewN | with_reducible apply GBox.drew | (with_reducible refine GBox.newAt ?_ ?_ <;> first | (simp; done) | rfl) | with_reducible apply GBox.alloc)) b)
    have K3 : Hid (CBox _ (w.heap.size + 1) (⟨45, cl⟩)) := Lib.hid (CBox.below (by repeat (first | with_reducible exact K3.out | with_reducible apply CBox.drewN | with_reducible apply CBox.drew | (with_reducible refine CBox.newAt ?_ ?_ <;> first | (simp; done) | rfl) | with_reducible apply CBox.alloc)) b)
    try clear k2a k2b k2c k2d k2e k2z
    have k2z := K2.out.lt
    obtain ⟨k2a, k2b, k2c, k2d, k2e⟩ := K2.out.cell
    try clear k3a k3b k3c k3d k3z
    have k3z := K3.out.lt
    obtain ⟨k3a, k3b, k3c, k3d⟩ := K3.out.cell
    clear b
    go_wp2_with fail
    refine ((HK.out _ HR.out.a)).mono ?_
    rintro e w2 ⟨rfl, b⟩
    have Sw2 := Lib.hid b.size
    have HB := Lib.hid (chain0 (w := w) (by repeat (first | with_reducible exact Below.refl _ _ | with_reducible exact HB.out | with_reducible apply Below.drew | with_reducible apply bdN | with_reducible refine Below.alloc ?_ (by first | exact Nat.le_refl _ | with_reducible exact HB.out.size | omega | (simp; done) | (simp; omega) | (have := HB.out.size; simp at *; omega)) _ | with_reducible refine Below.setCell ?_ (by first | exact Nat.le_refl _ | with_reducible exact HB.out.size | omega | (simp; done) | (simp; omega) | (have := HB.out.size; simp at *; omega)) _)) b)
    have HR := Lib.hid (RdG.below (by repeat (first | with_reducible exact HR.out | with_reducible apply RdG.drewN | with_reducible apply RdG.drew | with_reducible apply RdG.alloc)) b)
    have K2 : Hid (GBox _ (w.heap.size) (⟨27, s, nx, .slice p n c, .slice ps ns cs, .slice pw nw cw⟩)) := Lib.hid (GBox.below (by repeat (first | with_reducible exact K2.out | with_reducible apply GBox.drewN | with_reducible apply GBox.drew | (with_reducible refine GBox.newAt ?_ ?_ <;> first | (simp; done) | rfl) | with_reducible apply GBox.alloc)) b)
    have K3 : Hid (CBox _ (w.heap.size + 1) (⟨45, cl⟩)) := Lib.hid (CBox.below (by repeat (first | with_reducible exact K3.out | with_reducible apply CBox.drewN | with_reducible apply CBox.drew | (with_reducible refine CBox.newAt ?_ ?_ <;> first | (simp; done) | rfl) | with_reducible apply CBox.alloc)) b)
    try clear k2a k2b k2c k2d k2e k2z
    have k2z := K2.out.lt
    obtain ⟨k2a, k2b, k2c, k2d, k2e⟩ := K2.out.cell
    try clear k3a k3b k3c k3d k3z
    have k3z := K3.out.lt
    obtain ⟨k3a, k3b, k3c, k3d⟩ := K3.out.cell
    clear b
    go_wp2_with fail
    go_ret2
    exact ⟨rfl, by repeat (first | with_reducible exact Below.refl _ _ | with_reducible exact HB.out | with_reducible apply Below.drew | with_reducible apply bdN | with_reducible refine Below.alloc ?_ (by first | exact Nat.le_refl _ | with_reducible exact HB.out.size | omega | (simp; done) | (simp; omega) | (have := HB.out.size; simp at *; omega)) _ | with_reducible refine Below.setCell ?_ (by first | exact Nat.le_refl _ | with_reducible exact HB.out.size | omega | (simp; done) | (simp; omega) | (have := HB.out.size; simp at *; omega)) _)⟩

set_option maxRecDepth 100000 in
set_option maxHeartbeats 2000000 in
theorem spec_ck (g : Gm) (cl : Cd) (p ps pw : Option Addr) (n c ns cs nw cw : Nat) (w : World) (hf : FitG n c ns cs nw cw p ps pw g) (hr : RdG w p ps pw g.l g.sc g.wr) (hw : wfc cl) :
    Calls Try.prog 24 #[gval g.s g.nx (.slice p n c) (.slice ps ns cs) (.slice pw nw cw), cl.val] w fun e w' => e = .returned (.tuple #[.int .i64 (ckR g cl).1, .bool (ckR g cl).2]) ∧ Below w.heap.size w w' := by
  have HR := Lib.hid hr
  have HF := Lib.hid hf
  have HC := Lib.hid (fun w h => l8_game g p ps pw n c ns cs nw cw w hf h)
  have K3 : Hid (CBox ((w.alloc (Gv.obj ⟨27, g.s, g.nx, .slice p n c, .slice ps ns cs, .slice pw nw cw⟩)).alloc (Cv.obj ⟨45, cl⟩)) (w.heap.size + 1) ⟨45, cl⟩) := Lib.hid (CBox.newAt (by simp) rfl)
  cases hok : g.ok
  · have HT := Lib.hid (show ckR g cl = (0, false) by unfold ckR; rw [if_neg (by simp [hok])])
    rw [hok] at HC
    rw [HT.out]
    clear hf hr hok HT
    obtain ⟨s, nx, l, sc, wt⟩ := g
    simp only at HR HC K3 ⊢
    go_enter Try.func24, Try.ntmps24
    go_upto_region 1 with fail
    obtain ⟨w0, ew, b⟩ : ∃ wOPN : World, wOPN = ((w.alloc (Gv.obj ⟨27, s, nx, .slice p n c, .slice ps ns cs, .slice pw nw cw⟩)).alloc (Cv.obj ⟨45, cl⟩)) ∧ Below (((w.alloc (Gv.obj ⟨27, s, nx, .slice p n c, .slice ps ns cs, .slice pw nw cw⟩)).alloc (Cv.obj ⟨45, cl⟩))).heap.size (((w.alloc (Gv.obj ⟨27, s, nx, .slice p n c, .slice ps ns cs, .slice pw nw cw⟩)).alloc (Cv.obj ⟨45, cl⟩))) wOPN := ⟨_, rfl, Below.refl _ _⟩
    rw [← ew]
    clear ew
    have Sw0 := Lib.hid b.size
    have HB := Lib.hid (chain0 (w := w) (by repeat (first | with_reducible exact Below.refl _ _ | with_reducible exact HB.out | with_reducible apply Below.drew | with_reducible apply bdN | with_reducible refine Below.alloc ?_ (by first | exact Nat.le_refl _ | with_reducible exact HB.out.size | omega | (simp; done) | (simp; omega) | (have := HB.out.size; simp at *; omega)) _ | with_reducible refine Below.setCell ?_ (by first | exact Nat.le_refl _ | with_reducible exact HB.out.size | omega | (simp; done) | (simp; omega) | (have := HB.out.size; simp at *; omega)) _)) b)
    have HR := Lib.hid (RdG.below (by repeat (first | with_reducible exact HR.out | with_reducible apply RdG.drewN | with_reducible apply RdG.drew | with_reducible apply RdG.alloc)) b)
    have K2 : Hid (GBox _ (w.heap.size) (⟨27, s, nx, .slice p n c, .slice ps ns cs, .slice pw nw cw⟩)) := Lib.hid (GBox.below (by repeat (first | with_reducible exact K2.out | with_reducible apply GBox.drewN | with_reducible apply GBox.drew | (with_reducible refine GBox.newAt ?_ ?_ <;> first | (simp; done) | rfl) | with_reducible apply GBox.alloc)) b)
    have K3 : Hid (CBox _ (w.heap.size + 1) (⟨45, cl⟩)) := Lib.hid (CBox.below (by repeat (first | with_reducible exact K3.out | with_reducible apply CBox.drewN | with_reducible apply CBox.drew | (with_reducible refine CBox.newAt ?_ ?_ <;> first | (simp; done) | rfl) | with_reducible apply CBox.alloc)) b)
    try clear k2a k2b k2c k2d k2e k2z
    have k2z := K2.out.lt
    obtain ⟨k2a, k2b, k2c, k2d, k2e⟩ := K2.out.cell
    try clear k3a k3b k3c k3d k3z
    have k3z := K3.out.lt
    obtain ⟨k3a, k3b, k3c, k3d⟩ := K3.out.cell
    clear b
    go_wp2_with fail
    refine ((HC.out _ HR.out)).mono ?_
    rintro e w1 ⟨rfl, b⟩
    have Sw1 := Lib.hid b.size
    have HB := Lib.hid (chain0 (w := w) (by repeat (first | with_reducible exact Below.refl _ _ | with_reducible exact HB.out | with_reducible apply Below.drew | with_reducible apply bdN | with_reducible refine Below.alloc ?_ (by first | exact Nat.le_refl _ | with_reducible exact HB.out.size | omega | (simp; done) | (simp; omega) | (have := HB.out.size; simp at *; omega)) _ | with_reducible refine Below.setCell ?_ (by first | exact Nat.le_refl _ | with_reducible exact HB.out.size | omega | (simp; done) | (simp; omega) | (have := HB.out.size; simp at *; omega)) _)) b)
    have HR := Lib.hid (RdG.below (by repeat (first | with_reducible exact HR.out | with_reducible apply RdG.drewN | with_reducible apply RdG.drew | with_reducible apply RdG.alloc)) b)
    have K2 : Hid (GBox _ (w.heap.size) (⟨27, s, nx, .slice p n c, .slice ps ns cs, .slice pw nw cw⟩)) := Lib.hid (GBox.below (by repeat (first | with_reducible exact K2.out | with_reducible apply GBox.drewN | with_reducible apply GBox.drew | (with_reducible refine GBox.newAt ?_ ?_ <;> first | (simp; done) | rfl) | with_reducible apply GBox.alloc)) b)
    have K3 : Hid (CBox _ (w.heap.size + 1) (⟨45, cl⟩)) := Lib.hid (CBox.below (by repeat (first | with_reducible exact K3.out | with_reducible apply CBox.drewN | with_reducible apply CBox.drew | (with_reducible refine CBox.newAt ?_ ?_ <;> first | (simp; done) | rfl) | with_reducible apply CBox.alloc)) b)
    try clear k2a k2b k2c k2d k2e k2z
    have k2z := K2.out.lt
    obtain ⟨k2a, k2b, k2c, k2d, k2e⟩ := K2.out.cell
    try clear k3a k3b k3c k3d k3z
    have k3z := K3.out.lt
    obtain ⟨k3a, k3b, k3c, k3d⟩ := K3.out.cell
    clear b
    go_wp2_with fail
    go_ret2
    exact ⟨rfl, by repeat (first | with_reducible exact Below.refl _ _ | with_reducible exact HB.out | with_reducible apply Below.drew | with_reducible apply bdN | with_reducible refine Below.alloc ?_ (by first | exact Nat.le_refl _ | with_reducible exact HB.out.size | omega | (simp; done) | (simp; omega) | (have := HB.out.size; simp at *; omega)) _ | with_reducible refine Below.setCell ?_ (by first | exact Nat.le_refl _ | with_reducible exact HB.out.size | omega | (simp; done) | (simp; omega) | (have := HB.out.size; simp at *; omega)) _)⟩
  · have HO := okG hf (Gm.ok_iff.1 hok)
    have HT := Lib.hid (show ckR g cl = (kind g.l ns cl, true) by unfold ckR; rw [if_pos hok, hf.hs])
    have HK := Lib.hid (fun w h => l8_kind g.s g.nx g.l cl p ps pw n c ns cs nw cw w hf.hn HO.n (by have := HO.ns; omega) h HO.ok HO.nd hw)
    obtain ⟨kd, hkd⟩ : ∃ kd, kind g.l ns cl = kd := ⟨_, rfl⟩
    rw [hkd] at HK
    rw [hok] at HC
    rw [HT.out, hkd]
    clear hf hr hok HT HO hkd
    obtain ⟨s, nx, l, sc, wt⟩ := g
    simp only at HR HC HK K3 ⊢
    go_enter Try.func24, Try.ntmps24
    go_upto_region 1 with fail
    obtain ⟨w0, ew, b⟩ : ∃ wOPN : World, wOPN = ((w.alloc (Gv.obj ⟨27, s, nx, .slice p n c, .slice ps ns cs, .slice pw nw cw⟩)).alloc (Cv.obj ⟨45, cl⟩)) ∧ Below (((w.alloc (Gv.obj ⟨27, s, nx, .slice p n c, .slice ps ns cs, .slice pw nw cw⟩)).alloc (Cv.obj ⟨45, cl⟩))).heap.size (((w.alloc (Gv.obj ⟨27, s, nx, .slice p n c, .slice ps ns cs, .slice pw nw cw⟩)).alloc (Cv.obj ⟨45, cl⟩))) wOPN := ⟨_, rfl, Below.refl _ _⟩
    rw [← ew]
    clear ew
    have Sw0 := Lib.hid b.size
    have HB := Lib.hid (chain0 (w := w) (by repeat (first | with_reducible exact Below.refl _ _ | with_reducible exact HB.out | with_reducible apply Below.drew | with_reducible apply bdN | with_reducible refine Below.alloc ?_ (by first | exact Nat.le_refl _ | with_reducible exact HB.out.size | omega | (simp; done) | (simp; omega) | (have := HB.out.size; simp at *; omega)) _ | with_reducible refine Below.setCell ?_ (by first | exact Nat.le_refl _ | with_reducible exact HB.out.size | omega | (simp; done) | (simp; omega) | (have := HB.out.size; simp at *; omega)) _)) b)
    have HR := Lib.hid (RdG.below (by repeat (first | with_reducible exact HR.out | with_reducible apply RdG.drewN | with_reducible apply RdG.drew | with_reducible apply RdG.alloc)) b)
    have K2 : Hid (GBox _ (w.heap.size) (⟨27, s, nx, .slice p n c, .slice ps ns cs, .slice pw nw cw⟩)) := Lib.hid (GBox.below (by repeat (first | with_reducible exact K2.out | with_reducible apply GBox.drewN | with_reducible apply GBox.drew | (with_reducible refine GBox.newAt ?_ ?_ <;> first | (simp; done) | rfl) | with_reducible apply GBox.alloc)) b)
    have K3 : Hid (CBox _ (w.heap.size + 1) (⟨45, cl⟩)) := Lib.hid (CBox.below (by repeat (first | with_reducible exact K3.out | with_reducible apply CBox.drewN | with_reducible apply CBox.drew | (with_reducible refine CBox.newAt ?_ ?_ <;> first | (simp; done) | rfl) | with_reducible apply CBox.alloc)) b)
    try clear k2a k2b k2c k2d k2e k2z
    have k2z := K2.out.lt
    obtain ⟨k2a, k2b, k2c, k2d, k2e⟩ := K2.out.cell
    try clear k3a k3b k3c k3d k3z
    have k3z := K3.out.lt
    obtain ⟨k3a, k3b, k3c, k3d⟩ := K3.out.cell
    clear b
    go_wp2_with fail
    refine ((HC.out _ HR.out)).mono ?_
    rintro e w1 ⟨rfl, b⟩
    have Sw1 := Lib.hid b.size
    have HB := Lib.hid (chain0 (w := w) (by repeat (first | with_reducible exact Below.refl _ _ | with_reducible exact HB.out | with_reducible apply Below.drew | with_reducible apply bdN | with_reducible refine Below.alloc ?_ (by first | exact Nat.le_refl _ | with_reducible exact HB.out.size | omega | (simp; done) | (simp; omega) | (have := HB.out.size; simp at *; omega)) _ | with_reducible refine Below.setCell ?_ (by first | exact Nat.le_refl _ | with_reducible exact HB.out.size | omega | (simp; done) | (simp; omega) | (have := HB.out.size; simp at *; omega)) _)) b)
    have HR := Lib.hid (RdG.below (by repeat (first | with_reducible exact HR.out | with_reducible apply RdG.drewN | with_reducible apply RdG.drew | with_reducible apply RdG.alloc)) b)
    have K2 : Hid (GBox _ (w.heap.size) (⟨27, s, nx, .slice p n c, .slice ps ns cs, .slice pw nw cw⟩)) := Lib.hid (GBox.below (by repeat (first | with_reducible exact K2.out | with_reducible apply GBox.drewN | with_reducible apply GBox.drew | (with_reducible refine GBox.newAt ?_ ?_ <;> first | (simp; done) | rfl) | with_reducible apply GBox.alloc)) b)
    have K3 : Hid (CBox _ (w.heap.size + 1) (⟨45, cl⟩)) := Lib.hid (CBox.below (by repeat (first | with_reducible exact K3.out | with_reducible apply CBox.drewN | with_reducible apply CBox.drew | (with_reducible refine CBox.newAt ?_ ?_ <;> first | (simp; done) | rfl) | with_reducible apply CBox.alloc)) b)
    try clear k2a k2b k2c k2d k2e k2z
    have k2z := K2.out.lt
    obtain ⟨k2a, k2b, k2c, k2d, k2e⟩ := K2.out.cell
    try clear k3a k3b k3c k3d k3z
    have k3z := K3.out.lt
    obtain ⟨k3a, k3b, k3c, k3d⟩ := K3.out.cell
    clear b
    go_wp2_with fail
    refine ((HK.out _ HR.out.a)).mono ?_
    rintro e w2 ⟨rfl, b⟩
    have Sw2 := Lib.hid b.size
    have HB := Lib.hid (chain0 (w := w) (by repeat (first | with_reducible exact Below.refl _ _ | with_reducible exact HB.out | with_reducible apply Below.drew | with_reducible apply bdN | with_reducible refine Below.alloc ?_ (by first | exact Nat.le_refl _ | with_reducible exact HB.out.size | omega | (simp; done) | (simp; omega) | (have := HB.out.size; simp at *; omega)) _ | with_reducible refine Below.setCell ?_ (by first | exact Nat.le_refl _ | with_reducible exact HB.out.size | omega | (simp; done) | (simp; omega) | (have := HB.out.size; simp at *; omega)) _)) b)
    have HR := Lib.hid (RdG.below (by repeat (first | with_reducible exact HR.out | with_reducible apply RdG.drewN | with_reducible apply RdG.drew | with_reducible apply RdG.alloc)) b)
    have K2 : Hid (GBox _ (w.heap.size) (⟨27, s, nx, .slice p n c, .slice ps ns cs, .slice pw nw cw⟩)) := Lib.hid (GBox.below (by repeat (first | with_reducible exact K2.out | with_reducible apply GBox.drewN | with_reducible apply GBox.drew | (with_reducible refine GBox.newAt ?_ ?_ <;> first | (simp; done) | rfl) | with_reducible apply GBox.alloc)) b)
    have K3 : Hid (CBox _ (w.heap.size + 1) (⟨45, cl⟩)) := Lib.hid (CBox.below (by repeat (first | with_reducible exact K3.out | with_reducible apply CBox.drewN | with_reducible apply CBox.drew | (with_reducible refine CBox.newAt ?_ ?_ <;> first | (simp; done) | rfl) | with_reducible apply CBox.alloc)) b)
    try clear k2a k2b k2c k2d k2e k2z
    have k2z := K2.out.lt
    obtain ⟨k2a, k2b, k2c, k2d, k2e⟩ := K2.out.cell
    try clear k3a k3b k3c k3d k3z
    have k3z := K3.out.lt
    obtain ⟨k3a, k3b, k3c, k3d⟩ := K3.out.cell
    clear b
    go_wp2_with fail
    go_ret2
    exact ⟨rfl, by repeat (first | with_reducible exact Below.refl _ _ | with_reducible exact HB.out | with_reducible apply Below.drew | with_reducible apply bdN | with_reducible refine Below.alloc ?_ (by first | exact Nat.le_refl _ | with_reducible exact HB.out.size | omega | (simp; done) | (simp; omega) | (have := HB.out.size; simp at *; omega)) _ | with_reducible refine Below.setCell ?_ (by first | exact Nat.le_refl _ | with_reducible exact HB.out.size | omega | (simp; done) | (simp; omega) | (have := HB.out.size; simp at *; omega)) _)⟩
end Go.Proofs.Yteccbcbijfcpmaa.game

