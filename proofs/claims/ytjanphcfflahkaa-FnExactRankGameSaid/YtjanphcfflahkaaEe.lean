/- Games that the law makes: compared, marked, looked for again. -/
import Derived.Test.YtjanphcfflahkaaEd
namespace Go.Proofs.Ytjanphcfflahkaa.game
open Go.RowKit
open cards deal
set_option linter.unusedVariables false

set_option maxRecDepth 100000 in
set_option maxHeartbeats 2000000 in
theorem eq_game (s nx : Int) (l : List Cd) (sc wr : List Int) (p1 ps1 pw1 p2 ps2 pw2 : Option Addr) (n c1 c2 ns cs1 cs2 nw cw1 cw2 : Nat) (w : World) (hn : l.length = n) (hs : sc.length = ns) (hw : wr.length = nw) (hl : n ≤ 1000000000) (hls : ns ≤ 1000000000) (hlw : nw ≤ 1000000000) (hr1 : RdG w p1 ps1 pw1 l sc wr) (hr2 : RdG w p2 ps2 pw2 l sc wr) :
    Calls Try.prog 31 #[gval s nx (.slice p1 n c1) (.slice ps1 ns cs1) (.slice pw1 nw cw1), gval s nx (.slice p2 n c2) (.slice ps2 ns cs2) (.slice pw2 nw cw2)] w fun e w' => e = .returned (.bool true) ∧ Below w.heap.size w w' := by
  have HN := Lib.hid hn
  have HS := Lib.hid hs
  have HW := Lib.hid hw
  have HR1 := Lib.hid hr1
  have HR2 := Lib.hid hr2
  clear hn hs hw hr1 hr2
  go_enter Try.func31, Try.ntmps31
  go_wp2_with fail
  refine ((eq_deal s nx l p1 p2 n c1 c2 _ HN.out hl (RdG.a (by repeat (first | with_reducible exact HR1.out | with_reducible apply RdG.drewN | with_reducible apply RdG.drew | with_reducible apply RdG.alloc))) (RdG.a (by repeat (first | with_reducible exact HR2.out | with_reducible apply RdG.drewN | with_reducible apply RdG.drew | with_reducible apply RdG.alloc))))).mono ?_
  rintro e w1 ⟨rfl, b⟩
  have Sw1 := Lib.hid b.size
  have HB := Lib.hid (chain0 (w := w) (by repeat (first | with_reducible exact Below.refl _ _ | with_reducible exact HB.out | with_reducible apply Below.drew | with_reducible apply bdN | with_reducible refine Below.alloc ?_ (by first | exact Nat.le_refl _ | with_reducible exact HB.out.size | omega | (simp; done) | (simp; omega) | (have := HB.out.size; simp at *; omega)) _ | with_reducible refine Below.setCell ?_ (by first | exact Nat.le_refl _ | with_reducible exact HB.out.size | omega | (simp; done) | (simp; omega) | (have := HB.out.size; simp at *; omega)) _)) b)
  have HR1 := Lib.hid (RdG.below (by repeat (first | with_reducible exact HR1.out | with_reducible apply RdG.drewN | with_reducible apply RdG.drew | with_reducible apply RdG.alloc)) b)
  have HR2 := Lib.hid (RdG.below (by repeat (first | with_reducible exact HR2.out | with_reducible apply RdG.drewN | with_reducible apply RdG.drew | with_reducible apply RdG.alloc)) b)
  have K1 : Hid (GBox _ (w.heap.size) (⟨51, s, nx, .slice p1 n c1, .slice ps1 ns cs1, .slice pw1 nw cw1⟩)) := Lib.hid (GBox.below (by repeat (first | with_reducible exact K1.out | with_reducible apply GBox.drewN | with_reducible apply GBox.drew | (with_reducible refine GBox.newAt ?_ ?_ <;> first | (simp; done) | rfl) | with_reducible apply GBox.alloc)) b)
  have K2 : Hid (GBox _ (w.heap.size + 1) (⟨51, s, nx, .slice p2 n c2, .slice ps2 ns cs2, .slice pw2 nw cw2⟩)) := Lib.hid (GBox.below (by repeat (first | with_reducible exact K2.out | with_reducible apply GBox.drewN | with_reducible apply GBox.drew | (with_reducible refine GBox.newAt ?_ ?_ <;> first | (simp; done) | rfl) | with_reducible apply GBox.alloc)) b)
  try clear k1a k1b k1c k1d k1e k1z
  have k1z := K1.out.lt
  obtain ⟨k1a, k1b, k1c, k1d, k1e⟩ := K1.out.cell
  try clear k2a k2b k2c k2d k2e k2z
  have k2z := K2.out.lt
  obtain ⟨k2a, k2b, k2c, k2d, k2e⟩ := K2.out.cell
  clear b
  go_wp2_with fail
  refine ((eq_ints sc ps1 ps2 ns cs1 cs2 _ HS.out hls HR1.out.b HR2.out.b)).mono ?_
  rintro e w2 ⟨rfl, b⟩
  have Sw2 := Lib.hid b.size
  have HB := Lib.hid (chain0 (w := w) (by repeat (first | with_reducible exact Below.refl _ _ | with_reducible exact HB.out | with_reducible apply Below.drew | with_reducible apply bdN | with_reducible refine Below.alloc ?_ (by first | exact Nat.le_refl _ | with_reducible exact HB.out.size | omega | (simp; done) | (simp; omega) | (have := HB.out.size; simp at *; omega)) _ | with_reducible refine Below.setCell ?_ (by first | exact Nat.le_refl _ | with_reducible exact HB.out.size | omega | (simp; done) | (simp; omega) | (have := HB.out.size; simp at *; omega)) _)) b)
  have HR1 := Lib.hid (RdG.below (by repeat (first | with_reducible exact HR1.out | with_reducible apply RdG.drewN | with_reducible apply RdG.drew | with_reducible apply RdG.alloc)) b)
  have HR2 := Lib.hid (RdG.below (by repeat (first | with_reducible exact HR2.out | with_reducible apply RdG.drewN | with_reducible apply RdG.drew | with_reducible apply RdG.alloc)) b)
  have K1 : Hid (GBox _ (w.heap.size) (⟨51, s, nx, .slice p1 n c1, .slice ps1 ns cs1, .slice pw1 nw cw1⟩)) := Lib.hid (GBox.below (by repeat (first | with_reducible exact K1.out | with_reducible apply GBox.drewN | with_reducible apply GBox.drew | (with_reducible refine GBox.newAt ?_ ?_ <;> first | (simp; done) | rfl) | with_reducible apply GBox.alloc)) b)
  have K2 : Hid (GBox _ (w.heap.size + 1) (⟨51, s, nx, .slice p2 n c2, .slice ps2 ns cs2, .slice pw2 nw cw2⟩)) := Lib.hid (GBox.below (by repeat (first | with_reducible exact K2.out | with_reducible apply GBox.drewN | with_reducible apply GBox.drew | (with_reducible refine GBox.newAt ?_ ?_ <;> first | (simp; done) | rfl) | with_reducible apply GBox.alloc)) b)
  try clear k1a k1b k1c k1d k1e k1z
  have k1z := K1.out.lt
  obtain ⟨k1a, k1b, k1c, k1d, k1e⟩ := K1.out.cell
  try clear k2a k2b k2c k2d k2e k2z
  have k2z := K2.out.lt
  obtain ⟨k2a, k2b, k2c, k2d, k2e⟩ := K2.out.cell
  clear b
  go_wp2_with fail
  refine ((eq_ints wr pw1 pw2 nw cw1 cw2 _ HW.out hlw HR1.out.c HR2.out.c)).mono ?_
  rintro e w3 ⟨rfl, b⟩
  have Sw3 := Lib.hid b.size
  have HB := Lib.hid (chain0 (w := w) (by repeat (first | with_reducible exact Below.refl _ _ | with_reducible exact HB.out | with_reducible apply Below.drew | with_reducible apply bdN | with_reducible refine Below.alloc ?_ (by first | exact Nat.le_refl _ | with_reducible exact HB.out.size | omega | (simp; done) | (simp; omega) | (have := HB.out.size; simp at *; omega)) _ | with_reducible refine Below.setCell ?_ (by first | exact Nat.le_refl _ | with_reducible exact HB.out.size | omega | (simp; done) | (simp; omega) | (have := HB.out.size; simp at *; omega)) _)) b)
  have HR1 := Lib.hid (RdG.below (by repeat (first | with_reducible exact HR1.out | with_reducible apply RdG.drewN | with_reducible apply RdG.drew | with_reducible apply RdG.alloc)) b)
  have HR2 := Lib.hid (RdG.below (by repeat (first | with_reducible exact HR2.out | with_reducible apply RdG.drewN | with_reducible apply RdG.drew | with_reducible apply RdG.alloc)) b)
  have K1 : Hid (GBox _ (w.heap.size) (⟨51, s, nx, .slice p1 n c1, .slice ps1 ns cs1, .slice pw1 nw cw1⟩)) := Lib.hid (GBox.below (by repeat (first | with_reducible exact K1.out | with_reducible apply GBox.drewN | with_reducible apply GBox.drew | (with_reducible refine GBox.newAt ?_ ?_ <;> first | (simp; done) | rfl) | with_reducible apply GBox.alloc)) b)
  have K2 : Hid (GBox _ (w.heap.size + 1) (⟨51, s, nx, .slice p2 n c2, .slice ps2 ns cs2, .slice pw2 nw cw2⟩)) := Lib.hid (GBox.below (by repeat (first | with_reducible exact K2.out | with_reducible apply GBox.drewN | with_reducible apply GBox.drew | (with_reducible refine GBox.newAt ?_ ?_ <;> first | (simp; done) | rfl) | with_reducible apply GBox.alloc)) b)
  try clear k1a k1b k1c k1d k1e k1z
  have k1z := K1.out.lt
  obtain ⟨k1a, k1b, k1c, k1d, k1e⟩ := K1.out.cell
  try clear k2a k2b k2c k2d k2e k2z
  have k2z := K2.out.lt
  obtain ⟨k2a, k2b, k2c, k2d, k2e⟩ := K2.out.cell
  clear b
  go_wp2_with fail
  go_ret
  exact ⟨rfl, by repeat (first | with_reducible exact Below.refl _ _ | with_reducible exact HB.out | with_reducible apply Below.drew | with_reducible apply bdN | with_reducible refine Below.alloc ?_ (by first | exact Nat.le_refl _ | with_reducible exact HB.out.size | omega | (simp; done) | (simp; omega) | (have := HB.out.size; simp at *; omega)) _ | with_reducible refine Below.setCell ?_ (by first | exact Nat.le_refl _ | with_reducible exact HB.out.size | omega | (simp; done) | (simp; omega) | (have := HB.out.size; simp at *; omega)) _)⟩

set_option maxRecDepth 100000 in
set_option maxHeartbeats 2000000 in
theorem mark_game (s nx : Int) (l : List Cd) (sc wr : List Int) (vl vs vw : Value) (B C k0 n ns nw : Nat) (w : World) (hn : l.length = n) (hs : sc.length = ns) (hw : wr.length = nw) (hl : k0 + 4 * n + ns + nw ≤ 1000000000) (hC : C ≤ w.heap.size) (hB : B ≤ C) (ho : OwnG w B C vl vs vw l sc wr) :
    Calls Try.prog 32 #[gval s nx vl vs vw, .int .i64 k0] w fun e w' => e = .returned (.int .i64 (k0 + 4 * n + ns + nw : Nat)) ∧ OwnG w' B C vl vs vw (marked k0 n) (markedI (k0 + 4 * n) ns) (markedI (k0 + 4 * n + ns) nw) ∧ Out B C w w' := by
  obtain ⟨p, c, ps, cs, pw, cw, rfl, rfl, rfl, _⟩ := ho.form
  rw [hn, hs, hw] at ho ⊢
  have HN := Lib.hid hn
  have HS := Lib.hid hs
  have HW := Lib.hid hw
  have HO := Lib.hid (ho.alloc (Gv.obj ⟨51, s, nx, .slice p n c, .slice ps ns cs, .slice pw nw cw⟩))
  have HB := Lib.hid (Out.of_below (a := B) (b := C) ((Below.refl w.heap.size w).alloc (Nat.le_refl _) (Gv.obj ⟨51, s, nx, .slice p n c, .slice ps ns cs, .slice pw nw cw⟩)))
  have K1 : Hid (GBox (w.alloc (Gv.obj ⟨51, s, nx, .slice p n c, .slice ps ns cs, .slice pw nw cw⟩)) w.heap.size ⟨51, s, nx, .slice p n c, .slice ps ns cs, .slice pw nw cw⟩) := Lib.hid (GBox.newAt rfl rfl)
  have HZ : Hid (w.heap.size ≤ (w.alloc (Gv.obj ⟨51, s, nx, .slice p n c, .slice ps ns cs, .slice pw nw cw⟩)).heap.size) := Lib.hid (by simp)
  obtain ⟨k1, hk1⟩ : ∃ k1, k0 + 4 * n = k1 := ⟨_, rfl⟩
  obtain ⟨k2, hk2⟩ : ∃ k2, k1 + ns = k2 := ⟨_, rfl⟩
  obtain ⟨k3, hk3⟩ : ∃ k3, k2 + nw = k3 := ⟨_, rfl⟩
  have HM1 := Lib.hid (fun w => mark_deal s nx l (.slice p n c) B k0 n w HN.out (by omega))
  have HM2 := Lib.hid (fun w => mark_ints sc (.slice ps ns cs) B k1 ns w HS.out (by omega))
  have HM3 := Lib.hid (fun w => mark_ints wr (.slice pw nw cw) B k2 nw w HW.out (by omega))
  rw [hk1] at HM1
  rw [hk2] at HM2
  rw [hk3] at HM3
  rw [hk1, hk2, hk3]
  clear hn hs hw ho hk1 hk2 hk3 hl
  go_enter Try.func32, Try.ntmps32
  go_upto_region 1 with fail
  generalize (w.alloc (Gv.obj ⟨51, s, nx, .slice p n c, .slice ps ns cs, .slice pw nw cw⟩)) = W0 at HO HB K1 HZ ⊢
  obtain ⟨k1a, k1b, k1c, k1d, k1e⟩ := K1.out.cell
  have k1z := K1.out.lt
  go_wp2_with fail
  refine (HM1.out _ (by have := HZ.out; omega) HO.out.o1).mono ?_
  rintro e w1 ⟨rfl, o1, g1⟩
  have q1 : Out B C W0 w1 := Out.grown g1 (fun g e => ⟨(HO.out.o1.span g e).1, HO.out.c1 g e⟩)
  have HB1 := Lib.hid (HB.out.trans q1)
  have K11 := Lib.hid (GBox.out K1.out q1 (.inr hC))
  have HO1 : Hid (OwnG w1 B C (.slice p n c) (.slice ps ns cs) (.slice pw nw cw) (marked k0 n) sc wr) := Lib.hid ⟨o1, OwnI.past HO.out.o2 g1 HO.out.a12, OwnI.past HO.out.o3 g1 HO.out.a13, HO.out.a12, HO.out.a13, HO.out.a23, HO.out.c1, HO.out.c2, HO.out.c3⟩
  have HZ1 := Lib.hid (Nat.le_trans HZ.out g1.size)
  clear o1 g1 q1 k1a k1b k1c k1d k1e k1z
  obtain ⟨k1a, k1b, k1c, k1d, k1e⟩ := K11.out.cell
  have k1z := K11.out.lt
  go_wp2_with fail
  refine (HM2.out _ (by have := HZ1.out; omega) HO1.out.o2).mono ?_
  rintro e w2 ⟨rfl, o2, g2⟩
  have q2 : Out B C w1 w2 := Out.grown g2 (fun g e => ⟨(HO1.out.o2.span g e).1, HO1.out.c2 g e⟩)
  have HB2 := Lib.hid (HB1.out.trans q2)
  have K12 := Lib.hid (GBox.out K11.out q2 (.inr hC))
  have HO2 : Hid (OwnG w2 B C (.slice p n c) (.slice ps ns cs) (.slice pw nw cw) (marked k0 n) (markedI k1 ns) wr) := Lib.hid ⟨Own.past HO1.out.o1 g2 HO1.out.a12.symm, o2, OwnI.past HO1.out.o3 g2 HO1.out.a23, HO1.out.a12, HO1.out.a13, HO1.out.a23, HO1.out.c1, HO1.out.c2, HO1.out.c3⟩
  have HZ2 := Lib.hid (Nat.le_trans HZ1.out g2.size)
  clear o2 g2 q2 k1a k1b k1c k1d k1e k1z
  obtain ⟨k1a, k1b, k1c, k1d, k1e⟩ := K12.out.cell
  have k1z := K12.out.lt
  go_wp2_with fail
  refine (HM3.out _ (by have := HZ2.out; omega) HO2.out.o3).mono ?_
  rintro e w3 ⟨rfl, o3, g3⟩
  have q3 : Out B C w2 w3 := Out.grown g3 (fun g e => ⟨(HO2.out.o3.span g e).1, HO2.out.c3 g e⟩)
  have HB3 := Lib.hid (HB2.out.trans q3)
  have HO3 : Hid (OwnG w3 B C (.slice p n c) (.slice ps ns cs) (.slice pw nw cw) (marked k0 n) (markedI k1 ns) (markedI k2 nw)) := Lib.hid ⟨Own.past HO2.out.o1 g3 HO2.out.a13.symm, OwnI.past HO2.out.o2 g3 HO2.out.a23.symm, o3, HO2.out.a12, HO2.out.a13, HO2.out.a23, HO2.out.c1, HO2.out.c2, HO2.out.c3⟩
  clear o3 g3 q3 k1a k1b k1c k1d k1e k1z
  go_wp2_with fail
  go_ret
  exact ⟨rfl, HO3.out, HB3.out⟩

end Go.Proofs.Ytjanphcfflahkaa.game
