/- Merged texts: Ee, Rg, Rc, Vx, Vy, Vz, Ej, Ef, Ey, Ez, Ja, Ex, Ei, Ek, En, Ep, Rd, Jb, E3, El. -/
import Derived.Test.YtjpfjgoebdogjaaEd
import Derived.Test.YtjpfjgoebdogjaaCd
import Derived.Deep.MidRow
import Derived.OrdersHeld
import Derived.Deep.RegionHeld3
import Derived.Laws.ResultCell
import Derived.Laws.Rows
import Derived.IntWalk
import Derived.Laws.AppendOwn
import Derived.Maps.AppendAt
import Derived.Test.YtjpfjgoebdogjaaUa
import Derived.Laws.CopyOwn
import Derived.Lib.SliceRun
import Derived.Test.YtjpfjgoebdogjaaQq
import Derived.Test.YtjpfjgoebdogjaaAp
import Derived.Test.YtjpfjgoebdogjaaAt
import Derived.Test.YtjpfjgoebdogjaaQt
import Derived.Test.YtjpfjgoebdogjaaQe
import Derived.Test.YtjpfjgoebdogjaaRw
import Derived.Test.YtjpfjgoebdogjaaPu
import Derived.Test.YtjpfjgoebdogjaaR3
/- Games that the law makes: compared, marked, looked for again. -/
namespace Go.Proofs.Ytjpfjgoebdogjaa.game
open Go.RowKit
open cards deal
set_option linter.unusedVariables false

set_option maxRecDepth 100000 in
set_option maxHeartbeats 2000000 in
theorem eq_game (s nx : Int) (l : List Cd) (sc wr : List Int) (p1 ps1 pw1 p2 ps2 pw2 : Option Addr) (n c1 c2 ns cs1 cs2 nw cw1 cw2 : Nat) (w : World) (hn : l.length = n) (hs : sc.length = ns) (hw : wr.length = nw) (hl : n ≤ 1000000000) (hls : ns ≤ 1000000000) (hlw : nw ≤ 1000000000) (hr1 : RdG w p1 ps1 pw1 l sc wr) (hr2 : RdG w p2 ps2 pw2 l sc wr) :
    Calls Try.prog 12 #[gval s nx (.slice p1 n c1) (.slice ps1 ns cs1) (.slice pw1 nw cw1), gval s nx (.slice p2 n c2) (.slice ps2 ns cs2) (.slice pw2 nw cw2)] w fun e w' => e = .returned (.bool true) ∧ Below w.heap.size w w' := by
  have HN := Lib.hid hn
  have HS := Lib.hid hs
  have HW := Lib.hid hw
  have HR1 := Lib.hid hr1
  have HR2 := Lib.hid hr2
  clear hn hs hw hr1 hr2
  go_enter Try.func12, Try.ntmps12
  go_wp2_with fail
  refine ((eq_deal s nx l p1 p2 n c1 c2 _ HN.out hl (RdG.a (by repeat (first | with_reducible exact HR1.out | with_reducible apply RdG.drewN | with_reducible apply RdG.drew | with_reducible apply RdG.alloc))) (RdG.a (by repeat (first | with_reducible exact HR2.out | with_reducible apply RdG.drewN | with_reducible apply RdG.drew | with_reducible apply RdG.alloc))))).mono ?_
  rintro e w1 ⟨rfl, b⟩
  have Sw1 := Lib.hid b.size
  have HB := Lib.hid (chain0 (w := w) (by repeat (first | with_reducible exact Below.refl _ _ | with_reducible exact HB.out | with_reducible apply Below.drew | with_reducible apply bdN | with_reducible refine Below.alloc ?_ (by first | exact Nat.le_refl _ | with_reducible exact HB.out.size | omega | (simp; done) | (simp; omega) | (have := HB.out.size; simp at *; omega)) _)) b)
  have HR1 := Lib.hid (RdG.below (by repeat (first | with_reducible exact HR1.out | with_reducible apply RdG.drewN | with_reducible apply RdG.drew | with_reducible apply RdG.alloc)) b)
  have HR2 := Lib.hid (RdG.below (by repeat (first | with_reducible exact HR2.out | with_reducible apply RdG.drewN | with_reducible apply RdG.drew | with_reducible apply RdG.alloc)) b)
  have K1 : Hid (GBox _ (w.heap.size) (⟨33, s, nx, .slice p1 n c1, .slice ps1 ns cs1, .slice pw1 nw cw1⟩)) := Lib.hid (GBox.below (by repeat (first | with_reducible exact K1.out | with_reducible apply GBox.drewN | with_reducible apply GBox.drew | (with_reducible refine GBox.newAt ?_ ?_ <;> first | (simp; done) | rfl) | with_reducible apply GBox.alloc)) b)
  have K2 : Hid (GBox _ (w.heap.size + 1) (⟨33, s, nx, .slice p2 n c2, .slice ps2 ns cs2, .slice pw2 nw cw2⟩)) := Lib.hid (GBox.below (by repeat (first | with_reducible exact K2.out | with_reducible apply GBox.drewN | with_reducible apply GBox.drew | (with_reducible refine GBox.newAt ?_ ?_ <;> first | (simp; done) | rfl) | with_reducible apply GBox.alloc)) b)
  try clear k1a k1b k1c k1d k1e k1z
  have k1z := K1.out.lt
  obtain ⟨k1a, k1b, k1c, k1d, k1e⟩ := K1.out.cell
  try clear k2a k2b k2c k2d k2e k2z
  have k2z := K2.out.lt
  obtain ⟨k2a, k2b, k2c, k2d, k2e⟩ := K2.out.cell
  clear b
  go_wp2_with fail
  refine ((eq_ints sc ps1 ps2 ns cs1 cs2 _ HS.out hls HR1.out.b HR2.out.b)).mono ?_
  rintro e w2 ⟨rfl, b⟩
  have Sw2 := Lib.hid b.size
  have HB := Lib.hid (chain0 (w := w) (by repeat (first | with_reducible exact Below.refl _ _ | with_reducible exact HB.out | with_reducible apply Below.drew | with_reducible apply bdN | with_reducible refine Below.alloc ?_ (by first | exact Nat.le_refl _ | with_reducible exact HB.out.size | omega | (simp; done) | (simp; omega) | (have := HB.out.size; simp at *; omega)) _)) b)
  have HR1 := Lib.hid (RdG.below (by repeat (first | with_reducible exact HR1.out | with_reducible apply RdG.drewN | with_reducible apply RdG.drew | with_reducible apply RdG.alloc)) b)
  have HR2 := Lib.hid (RdG.below (by repeat (first | with_reducible exact HR2.out | with_reducible apply RdG.drewN | with_reducible apply RdG.drew | with_reducible apply RdG.alloc)) b)
  have K1 : Hid (GBox _ (w.heap.size) (⟨33, s, nx, .slice p1 n c1, .slice ps1 ns cs1, .slice pw1 nw cw1⟩)) := Lib.hid (GBox.below (by repeat (first | with_reducible exact K1.out | with_reducible apply GBox.drewN | with_reducible apply GBox.drew | (with_reducible refine GBox.newAt ?_ ?_ <;> first | (simp; done) | rfl) | with_reducible apply GBox.alloc)) b)
  have K2 : Hid (GBox _ (w.heap.size + 1) (⟨33, s, nx, .slice p2 n c2, .slice ps2 ns cs2, .slice pw2 nw cw2⟩)) := Lib.hid (GBox.below (by repeat (first | with_reducible exact K2.out | with_reducible apply GBox.drewN | with_reducible apply GBox.drew | (with_reducible refine GBox.newAt ?_ ?_ <;> first | (simp; done) | rfl) | with_reducible apply GBox.alloc)) b)
  try clear k1a k1b k1c k1d k1e k1z
  have k1z := K1.out.lt
  obtain ⟨k1a, k1b, k1c, k1d, k1e⟩ := K1.out.cell
  try clear k2a k2b k2c k2d k2e k2z
  have k2z := K2.out.lt
  obtain ⟨k2a, k2b, k2c, k2d, k2e⟩ := K2.out.cell
  clear b
  go_wp2_with fail
  refine ((eq_ints wr pw1 pw2 nw cw1 cw2 _ HW.out hlw HR1.out.c HR2.out.c)).mono ?_
  rintro e w3 ⟨rfl, b⟩
  have Sw3 := Lib.hid b.size
  have HB := Lib.hid (chain0 (w := w) (by repeat (first | with_reducible exact Below.refl _ _ | with_reducible exact HB.out | with_reducible apply Below.drew | with_reducible apply bdN | with_reducible refine Below.alloc ?_ (by first | exact Nat.le_refl _ | with_reducible exact HB.out.size | omega | (simp; done) | (simp; omega) | (have := HB.out.size; simp at *; omega)) _)) b)
  have HR1 := Lib.hid (RdG.below (by repeat (first | with_reducible exact HR1.out | with_reducible apply RdG.drewN | with_reducible apply RdG.drew | with_reducible apply RdG.alloc)) b)
  have HR2 := Lib.hid (RdG.below (by repeat (first | with_reducible exact HR2.out | with_reducible apply RdG.drewN | with_reducible apply RdG.drew | with_reducible apply RdG.alloc)) b)
  have K1 : Hid (GBox _ (w.heap.size) (⟨33, s, nx, .slice p1 n c1, .slice ps1 ns cs1, .slice pw1 nw cw1⟩)) := Lib.hid (GBox.below (by repeat (first | with_reducible exact K1.out | with_reducible apply GBox.drewN | with_reducible apply GBox.drew | (with_reducible refine GBox.newAt ?_ ?_ <;> first | (simp; done) | rfl) | with_reducible apply GBox.alloc)) b)
  have K2 : Hid (GBox _ (w.heap.size + 1) (⟨33, s, nx, .slice p2 n c2, .slice ps2 ns cs2, .slice pw2 nw cw2⟩)) := Lib.hid (GBox.below (by repeat (first | with_reducible exact K2.out | with_reducible apply GBox.drewN | with_reducible apply GBox.drew | (with_reducible refine GBox.newAt ?_ ?_ <;> first | (simp; done) | rfl) | with_reducible apply GBox.alloc)) b)
  try clear k1a k1b k1c k1d k1e k1z
  have k1z := K1.out.lt
  obtain ⟨k1a, k1b, k1c, k1d, k1e⟩ := K1.out.cell
  try clear k2a k2b k2c k2d k2e k2z
  have k2z := K2.out.lt
  obtain ⟨k2a, k2b, k2c, k2d, k2e⟩ := K2.out.cell
  clear b
  go_wp2_with fail
  go_ret
  exact ⟨rfl, by repeat (first | with_reducible exact Below.refl _ _ | with_reducible exact HB.out | with_reducible apply Below.drew | with_reducible apply bdN | with_reducible refine Below.alloc ?_ (by first | exact Nat.le_refl _ | with_reducible exact HB.out.size | omega | (simp; done) | (simp; omega) | (have := HB.out.size; simp at *; omega)) _)⟩

set_option maxRecDepth 100000 in
set_option maxHeartbeats 2000000 in
theorem mark_game (s nx : Int) (l : List Cd) (sc wr : List Int) (vl vs vw : Value) (B C k0 n ns nw : Nat) (w : World) (hn : l.length = n) (hs : sc.length = ns) (hw : wr.length = nw) (hl : k0 + 4 * n + ns + nw ≤ 1000000000) (hC : C ≤ w.heap.size) (hB : B ≤ C) (ho : OwnG w B C vl vs vw l sc wr) :
    Calls Try.prog 15 #[gval s nx vl vs vw, .int .i64 k0] w fun e w' => e = .returned (.int .i64 (k0 + 4 * n + ns + nw : Nat)) ∧ OwnG w' B C vl vs vw (marked k0 n) (markedI (k0 + 4 * n) ns) (markedI (k0 + 4 * n + ns) nw) ∧ Out B C w w' := by
  obtain ⟨p, c, ps, cs, pw, cw, rfl, rfl, rfl, _⟩ := ho.form
  rw [hn, hs, hw] at ho ⊢
  have HN := Lib.hid hn
  have HS := Lib.hid hs
  have HW := Lib.hid hw
  have HO := Lib.hid (ho.alloc (Gv.obj ⟨33, s, nx, .slice p n c, .slice ps ns cs, .slice pw nw cw⟩))
  have HB := Lib.hid (Out.of_below (a := B) (b := C) ((Below.refl w.heap.size w).alloc (Nat.le_refl _) (Gv.obj ⟨33, s, nx, .slice p n c, .slice ps ns cs, .slice pw nw cw⟩)))
  have K1 : Hid (GBox (w.alloc (Gv.obj ⟨33, s, nx, .slice p n c, .slice ps ns cs, .slice pw nw cw⟩)) w.heap.size ⟨33, s, nx, .slice p n c, .slice ps ns cs, .slice pw nw cw⟩) := Lib.hid (GBox.newAt rfl rfl)
  have HZ : Hid (w.heap.size ≤ (w.alloc (Gv.obj ⟨33, s, nx, .slice p n c, .slice ps ns cs, .slice pw nw cw⟩)).heap.size) := Lib.hid (by simp)
  obtain ⟨k1, hk1⟩ : ∃ k1, k0 + 4 * n = k1 := ⟨_, rfl⟩
  obtain ⟨k2, hk2⟩ : ∃ k2, k1 + ns = k2 := ⟨_, rfl⟩
  obtain ⟨k3, hk3⟩ : ∃ k3, k2 + nw = k3 := ⟨_, rfl⟩
  have HM1 := Lib.hid (fun w => mark_deal s nx l (.slice p n c) B k0 n w HN.out (by omega))
  have HM2 := Lib.hid (fun w => mark_ints sc (.slice ps ns cs) B k1 ns w HS.out (by omega))
  have HM3 := Lib.hid (fun w => mark_ints wr (.slice pw nw cw) B k2 nw w HW.out (by omega))
  rw [hk1] at HM1
  rw [hk2] at HM2
  rw [hk3] at HM3
  rw [hk1, hk2, hk3]
  clear hn hs hw ho hk1 hk2 hk3 hl
  go_enter Try.func15, Try.ntmps15
  go_upto_region 1 with fail
  generalize (w.alloc (Gv.obj ⟨33, s, nx, .slice p n c, .slice ps ns cs, .slice pw nw cw⟩)) = W0 at HO HB K1 HZ ⊢
  obtain ⟨k1a, k1b, k1c, k1d, k1e⟩ := K1.out.cell
  have k1z := K1.out.lt
  go_wp2_with fail
  refine (HM1.out _ (by have := HZ.out; omega) HO.out.o1).mono ?_
  rintro e w1 ⟨rfl, o1, g1⟩
  have q1 : Out B C W0 w1 := Out.grown g1 (fun g e => ⟨(HO.out.o1.span g e).1, HO.out.c1 g e⟩)
  have HB1 := Lib.hid (HB.out.trans q1)
  have K11 := Lib.hid (GBox.out K1.out q1 (.inr hC))
  have HO1 : Hid (OwnG w1 B C (.slice p n c) (.slice ps ns cs) (.slice pw nw cw) (marked k0 n) sc wr) := Lib.hid ⟨o1, OwnI.past HO.out.o2 g1 HO.out.a12, OwnI.past HO.out.o3 g1 HO.out.a13, HO.out.a12, HO.out.a13, HO.out.a23, HO.out.c1, HO.out.c2, HO.out.c3⟩
  have HZ1 := Lib.hid (Nat.le_trans HZ.out g1.size)
  clear o1 g1 q1 k1a k1b k1c k1d k1e k1z
  obtain ⟨k1a, k1b, k1c, k1d, k1e⟩ := K11.out.cell
  have k1z := K11.out.lt
  go_wp2_with fail
  refine (HM2.out _ (by have := HZ1.out; omega) HO1.out.o2).mono ?_
  rintro e w2 ⟨rfl, o2, g2⟩
  have q2 : Out B C w1 w2 := Out.grown g2 (fun g e => ⟨(HO1.out.o2.span g e).1, HO1.out.c2 g e⟩)
  have HB2 := Lib.hid (HB1.out.trans q2)
  have K12 := Lib.hid (GBox.out K11.out q2 (.inr hC))
  have HO2 : Hid (OwnG w2 B C (.slice p n c) (.slice ps ns cs) (.slice pw nw cw) (marked k0 n) (markedI k1 ns) wr) := Lib.hid ⟨Own.past HO1.out.o1 g2 HO1.out.a12.symm, o2, OwnI.past HO1.out.o3 g2 HO1.out.a23, HO1.out.a12, HO1.out.a13, HO1.out.a23, HO1.out.c1, HO1.out.c2, HO1.out.c3⟩
  have HZ2 := Lib.hid (Nat.le_trans HZ1.out g2.size)
  clear o2 g2 q2 k1a k1b k1c k1d k1e k1z
  obtain ⟨k1a, k1b, k1c, k1d, k1e⟩ := K12.out.cell
  have k1z := K12.out.lt
  go_wp2_with fail
  refine (HM3.out _ (by have := HZ2.out; omega) HO2.out.o3).mono ?_
  rintro e w3 ⟨rfl, o3, g3⟩
  have q3 : Out B C w2 w3 := Out.grown g3 (fun g e => ⟨(HO2.out.o3.span g e).1, HO2.out.c3 g e⟩)
  have HB3 := Lib.hid (HB2.out.trans q3)
  have HO3 : Hid (OwnG w3 B C (.slice p n c) (.slice ps ns cs) (.slice pw nw cw) (marked k0 n) (markedI k1 ns) (markedI k2 nw)) := Lib.hid ⟨Own.past HO2.out.o1 g3 HO2.out.a13.symm, OwnI.past HO2.out.o2 g3 HO2.out.a23.symm, o3, HO2.out.a12, HO2.out.a13, HO2.out.a23, HO2.out.c1, HO2.out.c2, HO2.out.c3⟩
  clear o3 g3 q3 k1a k1b k1c k1d k1e k1z
  go_wp2_with fail
  go_ret
  exact ⟨rfl, HO3.out, HB3.out⟩

set_option maxRecDepth 100000 in
set_option maxHeartbeats 2000000 in
theorem held_game (s nx : Int) (vl vs vw : Value) (B C k0 n ns nw : Nat) (w : World) (hl : k0 + 4 * n + ns + nw ≤ 1000000000) (ho : OwnG w B C vl vs vw (marked k0 n) (markedI (k0 + 4 * n) ns) (markedI (k0 + 4 * n + ns) nw)) :
    Calls Try.prog 17 #[gval s nx vl vs vw, .int .i64 k0] w fun e w' => e = .returned (.int .i64 (k0 + 4 * n + ns + nw : Nat)) ∧ Below w.heap.size w w' := by
  obtain ⟨p, c, ps, cs, pw, cw, rfl, rfl, rfl, _⟩ := ho.form
  rw [marked_len, markedI_len, markedI_len] at ho ⊢
  have HO := Lib.hid ho
  obtain ⟨k1, hk1⟩ : ∃ k1, k0 + 4 * n = k1 := ⟨_, rfl⟩
  obtain ⟨k2, hk2⟩ : ∃ k2, k1 + ns = k2 := ⟨_, rfl⟩
  obtain ⟨k3, hk3⟩ : ∃ k3, k2 + nw = k3 := ⟨_, rfl⟩
  have HM1 := Lib.hid (fun w h => held_deal s nx (.slice p n c) B k0 n w (by omega) h)
  have HM2 := Lib.hid (fun w h => held_ints (.slice ps ns cs) B k1 ns w (by omega) h)
  have HM3 := Lib.hid (fun w h => held_ints (.slice pw nw cw) B k2 nw w (by omega) h)
  rw [hk1] at HM1
  rw [hk2] at HM2
  rw [hk3] at HM3
  rw [hk1, hk2] at HO
  rw [hk1, hk2, hk3]
  have b1 : (0 : Int) ≤ (k1 : Int) := by omega
  have b2 : (0 : Int) ≤ (k2 : Int) := by omega
  have b3 : (0 : Int) ≤ (k3 : Int) := by omega
  clear ho hk1 hk2 hk3 hl
  go_enter Try.func17, Try.ntmps17
  go_wp2_with fail
  refine ((HM1.out _ (OwnG.o1 (by repeat (first | with_reducible exact HO.out | with_reducible apply OwnG.drewN | with_reducible apply OwnG.drew | with_reducible apply OwnG.alloc))))).mono ?_
  rintro e w1 ⟨rfl, b⟩
  have Sw1 := Lib.hid b.size
  have HB := Lib.hid (chain0 (w := w) (by repeat (first | with_reducible exact Below.refl _ _ | with_reducible exact HB.out | with_reducible apply Below.drew | with_reducible apply bdN | with_reducible refine Below.alloc ?_ (by first | exact Nat.le_refl _ | with_reducible exact HB.out.size | omega | (simp; done) | (simp; omega) | (have := HB.out.size; simp at *; omega)) _)) b)
  have HO := Lib.hid (OwnG.below (by repeat (first | with_reducible exact HO.out | with_reducible apply OwnG.drewN | with_reducible apply OwnG.drew | with_reducible apply OwnG.alloc)) b)
  have K1 : Hid (GBox _ (w.heap.size) (⟨33, s, nx, .slice p n c, .slice ps ns cs, .slice pw nw cw⟩)) := Lib.hid (GBox.below (by repeat (first | with_reducible exact K1.out | with_reducible apply GBox.drewN | with_reducible apply GBox.drew | (with_reducible refine GBox.newAt ?_ ?_ <;> first | (simp; done) | rfl) | with_reducible apply GBox.alloc)) b)
  try clear k1a k1b k1c k1d k1e k1z
  have k1z := K1.out.lt
  obtain ⟨k1a, k1b, k1c, k1d, k1e⟩ := K1.out.cell
  clear b
  go_wp2_with fail
  refine ((HM2.out _ HO.out.o2)).mono ?_
  rintro e w2 ⟨rfl, b⟩
  have Sw2 := Lib.hid b.size
  have HB := Lib.hid (chain0 (w := w) (by repeat (first | with_reducible exact Below.refl _ _ | with_reducible exact HB.out | with_reducible apply Below.drew | with_reducible apply bdN | with_reducible refine Below.alloc ?_ (by first | exact Nat.le_refl _ | with_reducible exact HB.out.size | omega | (simp; done) | (simp; omega) | (have := HB.out.size; simp at *; omega)) _)) b)
  have HO := Lib.hid (OwnG.below (by repeat (first | with_reducible exact HO.out | with_reducible apply OwnG.drewN | with_reducible apply OwnG.drew | with_reducible apply OwnG.alloc)) b)
  have K1 : Hid (GBox _ (w.heap.size) (⟨33, s, nx, .slice p n c, .slice ps ns cs, .slice pw nw cw⟩)) := Lib.hid (GBox.below (by repeat (first | with_reducible exact K1.out | with_reducible apply GBox.drewN | with_reducible apply GBox.drew | (with_reducible refine GBox.newAt ?_ ?_ <;> first | (simp; done) | rfl) | with_reducible apply GBox.alloc)) b)
  try clear k1a k1b k1c k1d k1e k1z
  have k1z := K1.out.lt
  obtain ⟨k1a, k1b, k1c, k1d, k1e⟩ := K1.out.cell
  clear b
  go_wp2_with fail
  refine ((HM3.out _ HO.out.o3)).mono ?_
  rintro e w3 ⟨rfl, b⟩
  have Sw3 := Lib.hid b.size
  have HB := Lib.hid (chain0 (w := w) (by repeat (first | with_reducible exact Below.refl _ _ | with_reducible exact HB.out | with_reducible apply Below.drew | with_reducible apply bdN | with_reducible refine Below.alloc ?_ (by first | exact Nat.le_refl _ | with_reducible exact HB.out.size | omega | (simp; done) | (simp; omega) | (have := HB.out.size; simp at *; omega)) _)) b)
  have HO := Lib.hid (OwnG.below (by repeat (first | with_reducible exact HO.out | with_reducible apply OwnG.drewN | with_reducible apply OwnG.drew | with_reducible apply OwnG.alloc)) b)
  have K1 : Hid (GBox _ (w.heap.size) (⟨33, s, nx, .slice p n c, .slice ps ns cs, .slice pw nw cw⟩)) := Lib.hid (GBox.below (by repeat (first | with_reducible exact K1.out | with_reducible apply GBox.drewN | with_reducible apply GBox.drew | (with_reducible refine GBox.newAt ?_ ?_ <;> first | (simp; done) | rfl) | with_reducible apply GBox.alloc)) b)
  try clear k1a k1b k1c k1d k1e k1z
  have k1z := K1.out.lt
  obtain ⟨k1a, k1b, k1c, k1d, k1e⟩ := K1.out.cell
  clear b
  go_wp2_with fail
  go_ret
  exact ⟨rfl, by repeat (first | with_reducible exact Below.refl _ _ | with_reducible exact HB.out | with_reducible apply Below.drew | with_reducible apply bdN | with_reducible refine Below.alloc ?_ (by first | exact Nat.le_refl _ | with_reducible exact HB.out.size | omega | (simp; done) | (simp; omega) | (have := HB.out.size; simp at *; omega)) _)⟩
end Go.Proofs.Ytjpfjgoebdogjaa.game

/- A region that draws its order, whose calls come one behind the other, with one new block among its operations into which the last operation stores: ONE walk serves all its orders. -/
namespace Go.Proofs.Ytjpfjgoebdogjaa.reg
open Go.RowKit
set_option linter.unusedVariables false

section
variable {P : Program} {md : Region.Mode} {ops : Array Oper} {Q : Exit → Act → World → Prop}

/-- What an operation that is carried out leaves: its value, and the world. -/
def Upon (P : Program) (R : Value → World → Prop) : Result Next → Prop
  | .ok (.value v) w' => R v w'
  | .ok (.enter f args) w' => Calls P f args w' (fun e w'' => ∃ v, e = .returned v ∧ R v w'')
  | _ => False
/-- What is known of the world holds also with the new block. -/
structure Clo (n0 : Nat) (obj : Obj) (S I : World → Prop) : Prop where
  held : ∀ w, I w → S w
  big : ∀ w, I w → n0 ≤ w.heap.size
  grow : ∀ w, I w → I (w.alloc obj)
def ptr (g : Nat) : Value := .pointer (some ⟨g, 0, none⟩)
def chainA (P : Program) (ops : Array Oper) (S : World → Prop) (n0 : Nat) (obj : Obj) (fin : Act → (World → Prop) → Prop) : List (Bool × Nat) → Act → (World → Prop) → Prop
  | [], a, I => fin a I
  | (true, i) :: r, a, I => ∃ o v, ops[i]? = some o ∧ YieldsIf P ops S o v a ∧ chainA P ops S n0 obj fin r (a.put o.dst v) I
  | (false, i) :: r, a, I => ∃ o, ops[i]? = some o ∧ o.guard = none ∧ ∀ w, I w → Upon P (fun v w' => Below w.heap.size w w' ∧ ∃ I', Clo n0 obj S I' ∧ I' w' ∧ chainA P ops S n0 obj fin r (a.put o.dst v) I') ((execOp a.eval o).run P w)
/-- The end of a region with a new block. -/
def atEnd (n0 : Nat) (obj : Obj) (f : Act → World → Nat → Prop) (a : Act) (I : World → Prop) : Prop := ∀ w g, I w → n0 ≤ g → w.heap[g]? = some obj → f a w g
/-- The end of a region without one. -/
def atEndP (f : Act → World → Prop) (a : Act) (I : World → Prop) : Prop := ∀ w, I w → f a w
def apartAt (ops : Array Oper) (oa : Oper) (i : Nat) : Bool := match ops[i]? with
  | some o => oa.apart ops o
  | none => false
theorem wanted_of {o : Oper} {a : Act} (hg : o.guard = none) : Region.wanted o (yielded ops a.tmps) = true := by
  unfold Region.wanted; rw [hg]
theorem wpOp_upon {i : Nat} {o : Oper} {a : Act} {w : World} {R : Value → World → Prop} {K : Act → World → Prop} (hi : ops[i]? = some o) (hg : o.guard = none)
    (h : Upon P R ((execOp a.eval o).run P w)) (hK : ∀ v w', R v w' → K (a.put o.dst v) w') : wpOp P ops Q i K a w := by
  unfold wpOp
  simp only [hi, wanted_of hg, if_true]
  refine .inl ?_
  unfold Oper.wp
  generalize (execOp a.eval o).run P w = r at h
  cases r with
  | ok n w' =>
    cases n <;> simp only [Upon] at h <;> simp only [Oper.upon]
    case value v => exact hK _ _ h
    case enter f args => exact h.mono fun e w'' ⟨v, he, hr⟩ => by subst he; exact hK _ _ hr
  | halt x w' => simp only [Upon] at h

/-- What is left comes up one by one. -/
def seqOk (md : Region.Mode) (ops : Array Oper) : List Nat → Array Bool → Bool
  | [], l => Region.ready md ops l == []
  | j :: r, l => (Region.ready md ops l == [j]) && seqOk md ops r (l.setIfInBounds j true)
/-- What is kept in variables at the end: number j of the region keeps slot u in slot d. -/
def assignOf (o : Oper) : Option (Tmp × Tmp) := match o.op, o.guard, o.dst with
  | .assign (.tmp u), none, some d => some (d, u)
  | _, _, _ => none
theorem assignOf_some {o : Oper} {d u : Tmp} (h : assignOf o = some (d, u)) : o.op = .assign (.tmp u) ∧ o.guard = none ∧ o.dst = some d := by
  unfold assignOf at h
  split at h
  · rename_i h1 h2 h3; cases h; exact ⟨h1, h2, h3⟩
  · cases h
def assigns (ops : Array Oper) : List (Nat × Tmp × Tmp) → Bool
  | [] => true
  | (j, d, u) :: r => ((ops[j]?).bind assignOf == some (d, u)) && assigns ops r
def runsTo : List (Nat × Tmp × Tmp) → Act → Act → Prop
  | [], a, a' => a' = a
  | (j, d, u) :: r, a, a' => ∃ v, a.eval (.tmp u) = v ∧ runsTo r (a.put (some d) v) a'
theorem tail_of {S : World → Prop} : ∀ (ts : List (Nat × Tmp × Tmp)) (l : Array Bool) (a a' : Act) (w : World), seqOk md ops (ts.map (·.1)) l = true → assigns ops ts = true → S w → runsTo ts a a' → Q .normal a' w → wpAnyH P md ops Q S ts.length l a w
  | [], l, a, a', w, hok, _, _, hr, h => by subst hr; exact wpAnyH_done (by simpa [seqOk] using hok) h 0
  | (j, d, u) :: r, l, a, a', w, hok, has, hS, hr, h => by
    simp only [seqOk, List.map_cons, Bool.and_eq_true, beq_iff_eq] at hok
    simp only [assigns, Bool.and_eq_true, beq_iff_eq] at has
    refine wpAnyH_all hok.1 (by simp) fun i hi => ?_
    obtain rfl : i = j := by simpa using hi
    obtain ⟨h1, h2⟩ := has
    cases ho : ops[i]? with
    | none => rw [ho] at h1; cases h1
    | some o =>
      rw [ho] at h1
      change assignOf o = some (d, u) at h1
      obtain ⟨hop, hg, hd⟩ := assignOf_some h1
      obtain ⟨v, hv, hr⟩ := hr
      refine wpOp_upon (R := fun v' w' => v' = v ∧ w' = w) ho hg (by unfold execOp; rw [hop]; exact ⟨hv, rfl⟩) ?_
      rintro v' w' ⟨rfl, rfl⟩
      rw [hd]
      exact ⟨hS, tail_of r _ _ _ _ hok.2 h2 hS hr h⟩
def chainOk (md : Region.Mode) (ops : Array Oper) (oa : Oper) (i0 s : Nat) (ts : List (Nat × Tmp × Tmp)) : List (Bool × Nat) → Array Bool → Bool
  | [], l => (Region.ready md ops l == [i0]) && (Region.ready md ops (l.setIfInBounds i0 true) == [s]) && seqOk md ops (ts.map (·.1)) ((l.setIfInBounds i0 true).setIfInBounds s true)
  | (true, i) :: r, l => Region.free md ops l i && (Region.ready md ops l).contains i && Region.free md ops (l.setIfInBounds i0 true) i && (Region.ready md ops (l.setIfInBounds i0 true)).contains i && apartAt ops oa i && (i != i0) && chainOk md ops oa i0 s ts r (l.setIfInBounds i true)
  | (false, i) :: r, l => ((Region.ready md ops l == [i]) || (Region.ready md ops l == [i, i0]) || (Region.ready md ops l == [i0, i])) && (Region.ready md ops (l.setIfInBounds i0 true) == [i]) && apartAt ops oa i && (i != i0) && chainOk md ops oa i0 s ts r (l.setIfInBounds i true)

variable {S : World → Prop} {n0 : Nat} {obj : Obj} {fin : Act → World → Nat → Prop} {oa : Oper} {i0 s d0 : Nat} {ts : List (Nat × Tmp × Tmp)}

theorem done_of (hsel : Region.noSelect ops = true) (hQ : ∀ c (d : Option Tmp) v a w, Q (.panic c) (a.put d v) w → Q (.panic c) a w) (hd : oa.dst = some d0)
    (ha0 : ops[i0]? = some oa) (hs : ∃ os, ops[s]? = some os ∧ os.guard = none)
    (has : assigns ops ts = true) (hfin : ∀ a w g, fin a w g → wpOp P ops Q s (fun a' w' => S w' ∧ ∃ a'', runsTo ts a' a'' ∧ Q .normal a'' w') (a.put (some d0) (ptr g)) w) :
    ∀ (r : List (Bool × Nat)) (l : Array Bool) (a : Act) (I : World → Prop) (w : World) (g : Nat), chainOk md ops oa i0 s ts r l = true → Clo n0 obj S I → I w → n0 ≤ g → w.heap[g]? = some obj →
      chainA P ops S n0 obj (atEnd n0 obj fin) r a I → wpAnyH P md ops Q S (r.length + ts.length + 1) (l.setIfInBounds i0 true) (a.put (some d0) (ptr g)) w
  | [], l, a, I, w, g, hok, hc, hI, hg, hb, h => by
    simp only [chainOk, Bool.and_eq_true, beq_iff_eq] at hok
    refine wpAnyH_all hok.1.2 (by simp) fun i hi => ?_
    obtain rfl : i = s := by simpa using hi
    simp only [List.length_nil, Nat.zero_add]
    exact wpOp_mono (fun a' w' ⟨h1, a'', h2, h3⟩ => ⟨h1, tail_of ts _ _ _ _ hok.2 has h1 h2 h3⟩) (hfin _ _ _ (h w g hI hg hb))
  | (true, i) :: r, l, a, I, w, g, hok, hc, hI, hg, hb, h => by
    simp only [chainOk, Bool.and_eq_true] at hok
    obtain ⟨⟨⟨⟨⟨⟨h1, h2⟩, h3⟩, h4⟩, h5⟩, h6⟩, h7⟩ := hok
    obtain ⟨o, v, ho, hy, hr⟩ := h
    have hap : oa.apart ops o = true := by unfold apartAt at h5; rw [ho] at h5; exact h5
    obtain ⟨p1, p2, p3⟩ := Oper.apart_spec hap
    have hne : i ≠ i0 := by simpa using h6
    rw [List.length_cons, show r.length + 1 + ts.length + 1 = (r.length + ts.length + 1) + 1 by omega]
    refine wpAnyH_take (v := v) ho hsel h3 h4 (fun c a w => hQ c _ _ a w) (hy.of_same (execOp_put o (Region.noSelect_spec hsel i o · · ho) a (some d0) (ptr g) (fun d e => p1 d (hd.trans e))) (wanted_put o a (some d0) (ptr g) (fun d e => p1 d (hd.trans e)))) (hc.held _ hI) ?_
    rw [Array.setIfInBounds_comm _ _ (Ne.symm hne), Act.put_comm a (x := some d0) (y := o.dst) (ptr g) v (fun d e => p2 d (hd.trans e))]
    exact done_of hsel hQ hd ha0 hs has hfin r _ _ I w g h7 hc hI hg hb hr
  | (false, i) :: r, l, a, I, w, g, hok, hc, hI, hg, hb, h => by
    simp only [chainOk, Bool.and_eq_true, beq_iff_eq] at hok
    obtain ⟨⟨⟨⟨h1, h2⟩, h5⟩, h6⟩, h7⟩ := hok
    obtain ⟨o, ho, hgd, hr⟩ := h
    have hap : oa.apart ops o = true := by unfold apartAt at h5; rw [ho] at h5; exact h5
    obtain ⟨p1, p2, p3⟩ := Oper.apart_spec hap
    have hne : i ≠ i0 := by simpa using h6
    rw [List.length_cons, show r.length + 1 + ts.length + 1 = (r.length + ts.length + 1) + 1 by omega]
    refine wpAnyH_all h2 (by simp) fun j hj => ?_
    obtain rfl : j = i := by simpa using hj
    refine wpOp_upon (R := fun v w' => Below w.heap.size w w' ∧ ∃ I', Clo n0 obj S I' ∧ I' w' ∧ chainA P ops S n0 obj (atEnd n0 obj fin) r (a.put o.dst v) I') ho hgd (by rw [execOp_put o (Region.noSelect_spec hsel _ o · · ho) a (some d0) (ptr g) (fun d e => p1 d (hd.trans e))]; exact hr w hI) fun v w' ⟨hbw, I', hc', hI', hr'⟩ => ?_
    refine ⟨hc'.held _ hI', ?_⟩
    rw [Array.setIfInBounds_comm _ _ (Ne.symm hne), Act.put_comm a (x := some d0) (y := o.dst) (ptr g) v (fun d e => p2 d (hd.trans e))]
    have hlt : g < w.heap.size := by
      rcases Nat.lt_or_ge g w.heap.size with h1 | h1
      · exact h1
      · rw [Array.getElem?_eq_none h1] at hb; cases hb
    exact done_of hsel hQ hd ha0 hs has hfin r _ _ I' w' g h7 hc' hI' hg ((hbw.block g hlt).trans hb) hr'

theorem yet_of (hsel : Region.noSelect ops = true) (hQ : ∀ c (d : Option Tmp) v a w, Q (.panic c) (a.put d v) w → Q (.panic c) a w) (hd : oa.dst = some d0)
    (ha0 : ops[i0]? = some oa) (hs : ∃ os, ops[s]? = some os ∧ os.guard = none)
    (has : assigns ops ts = true) (hfin : ∀ a w g, fin a w g → wpOp P ops Q s (fun a' w' => S w' ∧ ∃ a'', runsTo ts a' a'' ∧ Q .normal a'' w') (a.put (some d0) (ptr g)) w)
    (hga : oa.guard = none) (hal : ∀ (a : Act) (w : World), (execOp a.eval oa).run P w = .ok (.value (ptr w.heap.size)) (w.alloc obj)) :
    ∀ (r : List (Bool × Nat)) (l : Array Bool) (a : Act) (I : World → Prop) (w : World), chainOk md ops oa i0 s ts r l = true → Clo n0 obj S I → I w →
      chainA P ops S n0 obj (atEnd n0 obj fin) r a I → wpAnyH P md ops Q S (r.length + ts.length + 1 + 1) l a w := by
  have al : ∀ (r : List (Bool × Nat)) (l : Array Bool) (a : Act) (I : World → Prop) (w : World), chainOk md ops oa i0 s ts r l = true → Clo n0 obj S I → I w →
      chainA P ops S n0 obj (atEnd n0 obj fin) r a I → wpOp P ops Q i0 (fun a' w' => S w' ∧ wpAnyH P md ops Q S (r.length + ts.length + 1) (l.setIfInBounds i0 true) a' w') a w := by
    intro r l a I w hok hc hI h
    refine wpOp_upon (R := fun v w' => v = ptr w.heap.size ∧ w' = w.alloc obj) ha0 hga (by rw [hal]; exact ⟨rfl, rfl⟩) ?_
    rintro v w' ⟨rfl, rfl⟩
    rw [hd]
    exact ⟨hc.held _ (hc.grow _ hI), done_of hsel hQ hd ha0 hs has hfin r l a I _ _ hok hc (hc.grow _ hI) (hc.big _ hI) (heap_alloc_new _ _) h⟩
  intro r
  induction r with
  | nil =>
    intro l a I w hok hc hI h
    have hok' := hok
    simp only [chainOk, Bool.and_eq_true, beq_iff_eq] at hok'
    refine wpAnyH_all hok'.1.1 (by simp) fun j hj => ?_
    obtain rfl : j = i0 := by simpa using hj
    exact al [] l a I w hok hc hI h
  | cons x r ih =>
    obtain ⟨b, i⟩ := x
    intro l a I w hok hc hI h
    cases b with
    | true =>
      simp only [chainOk, Bool.and_eq_true] at hok
      obtain ⟨⟨⟨⟨⟨⟨h1, h2⟩, h3⟩, h4⟩, h5⟩, h6⟩, h7⟩ := hok
      obtain ⟨o, v, ho, hy, hr⟩ := h
      rw [List.length_cons, show r.length + 1 + ts.length + 1 + 1 = (r.length + ts.length + 1 + 1) + 1 by omega]
      exact wpAnyH_take (v := v) ho hsel h1 h2 (fun c a w => hQ c _ _ a w) hy (hc.held _ hI) (ih _ _ I w h7 hc hI hr)
    | false =>
      have hok0 := hok
      simp only [chainOk, Bool.and_eq_true, Bool.or_eq_true, beq_iff_eq] at hok
      obtain ⟨⟨⟨⟨h1, h2⟩, h5⟩, h6⟩, h7⟩ := hok
      have h0 := h
      obtain ⟨o, ho, hgd, hr⟩ := h
      have one : wpOp P ops Q i (fun a' w' => S w' ∧ wpAnyH P md ops Q S (r.length + ts.length + 1 + 1) (l.setIfInBounds i true) a' w') a w :=
        wpOp_upon ho hgd (hr w hI) fun v w' ⟨hbw, I', hc', hI', hr'⟩ => ⟨hc'.held _ hI', ih _ _ I' w' h7 hc' hI' hr'⟩
      have two := al ((false, i) :: r) l a I w hok0 hc hI h0
      rw [List.length_cons, show r.length + 1 + ts.length + 1 = r.length + ts.length + 1 + 1 by omega] at two
      rw [List.length_cons, show r.length + 1 + ts.length + 1 + 1 = (r.length + ts.length + 1 + 1) + 1 by omega]
      rcases h1 with (h1 | h1) | h1
      · refine wpAnyH_all h1 (by simp) fun j hj => ?_
        obtain rfl : j = i := by simpa using hj
        exact one
      · refine wpAnyH_all h1 (by simp) fun j hj => ?_
        simp only [List.mem_cons, List.not_mem_nil, or_false] at hj
        rcases hj with rfl | rfl
        · exact one
        · exact two
      · refine wpAnyH_all h1 (by simp) fun j hj => ?_
        simp only [List.mem_cons, List.not_mem_nil, or_false] at hj
        rcases hj with rfl | rfl
        · exact two
        · exact one

theorem chainA_mono {P : Program} {ops : Array Oper} {S : World → Prop} {n0 : Nat} {obj : Obj} {fin fin' : Act → (World → Prop) → Prop} (hf : ∀ a I, (∀ w, I w → S w) → fin a I → fin' a I) :
    ∀ (r : List (Bool × Nat)) (a : Act) (I : World → Prop), (∀ w, I w → S w) → chainA P ops S n0 obj fin r a I → chainA P ops S n0 obj fin' r a I
  | [], a, I, hc, h => hf a I hc h
  | (true, i) :: r, a, I, hc, ⟨o, v, ho, hy, hr⟩ => ⟨o, v, ho, hy, chainA_mono hf r _ I hc hr⟩
  | (false, i) :: r, a, I, hc, ⟨o, ho, hg, hr⟩ => ⟨o, ho, hg, fun w hw => by
      have h := hr w hw
      generalize (execOp a.eval o).run P w = q at h ⊢
      cases q with
      | ok n w' =>
        cases n <;> simp only [Upon] at h ⊢
        case value v => obtain ⟨hb, I', c, i1, i2⟩ := h; exact ⟨hb, I', c, i1, chainA_mono hf r _ I' c.held i2⟩
        case enter f args => exact h.mono fun e w'' ⟨v, he, hb, I', c, i1, i2⟩ => ⟨v, he, hb, I', c, i1, chainA_mono hf r _ I' c.held i2⟩
      | halt x w' => simp only [Upon] at h⟩
/-- A region without a new block. -/
def chainOkP (md : Region.Mode) (ops : Array Oper) : List (Bool × Nat) → Array Bool → Bool
  | [], l => Region.ready md ops l == []
  | (true, i) :: r, l => Region.free md ops l i && (Region.ready md ops l).contains i && chainOkP md ops r (l.setIfInBounds i true)
  | (false, i) :: r, l => (Region.ready md ops l == [i]) && chainOkP md ops r (l.setIfInBounds i true)
theorem plain_of {fp : Act → World → Prop} (hsel : Region.noSelect ops = true) (hQ : ∀ c (d : Option Tmp) v a w, Q (.panic c) (a.put d v) w → Q (.panic c) a w) (hfin : ∀ a w, fp a w → Q .normal a w) :
    ∀ (r : List (Bool × Nat)) (l : Array Bool) (a : Act) (I : World → Prop) (w : World), chainOkP md ops r l = true → (∀ w, I w → S w) → I w →
      chainA P ops S n0 obj (atEndP fp) r a I → wpAnyH P md ops Q S r.length l a w
  | [], l, a, I, w, hok, hc, hI, h => wpAnyH_done (by simpa [chainOkP] using hok) (hfin _ _ (h w hI)) 0
  | (true, i) :: r, l, a, I, w, hok, hc, hI, h => by
    simp only [chainOkP, Bool.and_eq_true] at hok
    obtain ⟨⟨h1, h2⟩, h7⟩ := hok
    obtain ⟨o, v, ho, hy, hr⟩ := h
    exact wpAnyH_take (v := v) ho hsel h1 h2 (fun c a w => hQ c _ _ a w) hy (hc _ hI) (plain_of hsel hQ hfin r _ _ I w h7 hc hI hr)
  | (false, i) :: r, l, a, I, w, hok, hc, hI, h => by
    simp only [chainOkP, Bool.and_eq_true, beq_iff_eq] at hok
    obtain ⟨h1, h7⟩ := hok
    obtain ⟨o, ho, hgd, hr⟩ := h
    refine wpAnyH_all h1 (by simp) fun j hj => ?_
    obtain rfl : j = i := by simpa using hj
    exact wpOp_upon ho hgd (hr w hI) fun v w' ⟨hbw, I', hc', hI', hr'⟩ => ⟨hc'.held _ hI', plain_of hsel hQ hfin r _ _ I' w' h7 hc'.held hI' hr'⟩
/-- THE LAW of a region without a new block. -/
theorem region_plain {id : Nat} {a : Act} {w : World} (r : List (Bool × Nat)) (n0 : Nat) (obj : Obj) (S I : World → Prop)
    (hm : P.follows .mixedOrders = true) (hok : chainOkP .any ops r (Array.replicate ops.size false) = true) (hlen : ops.size = r.length) (hsel : Region.noSelect ops = true)
    (hc : ∀ w, I w → S w) (hI : I w.drew) (h : chainA P ops S n0 obj (atEndP (Q .normal)) r a I) : (Code.region id ops true).wp P Q a w := by
  refine wp_region_noPanic (wp_region_held hm (S := S) ?_)
  have k := plain_of (md := .any) (Q := NoPanic Q) hsel (fun _ _ _ _ _ h => h) (fun a w h => NoPanic.normal h) r _ a I _ hok hc hI h
  rw [← hlen] at k
  exact k
/-- A region whose last operation stores into a block that was there. -/
def chainOkS (md : Region.Mode) (ops : Array Oper) (s : Nat) : List (Bool × Nat) → Array Bool → Bool
  | [], l => (Region.ready md ops l == [s]) && (Region.ready md ops (l.setIfInBounds s true) == [])
  | (true, i) :: r, l => Region.free md ops l i && (Region.ready md ops l).contains i && chainOkS md ops s r (l.setIfInBounds i true)
  | (false, i) :: r, l => (Region.ready md ops l == [i]) && chainOkS md ops s r (l.setIfInBounds i true)
theorem store_of {fp : Act → World → Prop} {s : Nat} (hsel : Region.noSelect ops = true) (hQ : ∀ c (d : Option Tmp) v a w, Q (.panic c) (a.put d v) w → Q (.panic c) a w)
    (hfin : ∀ a w, fp a w → wpOp P ops Q s (fun a' w' => S w' ∧ Q .normal a' w') a w) :
    ∀ (r : List (Bool × Nat)) (l : Array Bool) (a : Act) (I : World → Prop) (w : World), chainOkS md ops s r l = true → (∀ w, I w → S w) → I w →
      chainA P ops S n0 obj (atEndP fp) r a I → wpAnyH P md ops Q S (r.length + 1) l a w
  | [], l, a, I, w, hok, hc, hI, h => by
    simp only [chainOkS, Bool.and_eq_true, beq_iff_eq] at hok
    refine wpAnyH_all hok.1 (by simp) fun i hi => ?_
    obtain rfl : i = s := by simpa using hi
    exact wpOp_mono (fun a' w' hh => ⟨hh.1, wpAnyH_done hok.2 hh.2 0⟩) (hfin _ _ (h w hI))
  | (true, i) :: r, l, a, I, w, hok, hc, hI, h => by
    simp only [chainOkS, Bool.and_eq_true] at hok
    obtain ⟨⟨h1, h2⟩, h7⟩ := hok
    obtain ⟨o, v, ho, hy, hr⟩ := h
    exact wpAnyH_take (v := v) ho hsel h1 h2 (fun c a w => hQ c _ _ a w) hy (hc _ hI) (store_of hsel hQ hfin r _ _ I w h7 hc hI hr)
  | (false, i) :: r, l, a, I, w, hok, hc, hI, h => by
    simp only [chainOkS, Bool.and_eq_true, beq_iff_eq] at hok
    obtain ⟨h1, h7⟩ := hok
    obtain ⟨o, ho, hgd, hr⟩ := h
    refine wpAnyH_all h1 (by simp) fun j hj => ?_
    obtain rfl : j = i := by simpa using hj
    exact wpOp_upon ho hgd (hr w hI) fun v w' ⟨hbw, I', hc', hI', hr'⟩ => ⟨hc'.held _ hI', store_of hsel hQ hfin r _ _ I' w' h7 hc'.held hI' hr'⟩
/-- THE LAW of a region whose last operation stores one cell. -/
theorem region_store {id : Nat} {a : Act} {w : World} (r : List (Bool × Nat)) (s : Nat) (os : Oper) (n0 : Nat) (obj : Obj) (S I : World → Prop)
    (hm : P.follows .mixedOrders = true) (hok : chainOkS .any ops s r (Array.replicate ops.size false) = true) (hlen : ops.size = r.length + 1) (hsel : Region.noSelect ops = true)
    (hs0 : ops[s]? = some os) (hgs : os.guard = none) (hds : os.dst = none) (hc : ∀ w, I w → S w) (hI : I w.drew)
    (h : chainA P ops S n0 obj (atEndP fun a w => ∃ w', (execOp a.eval os).run P w = .ok .skip w' ∧ S w' ∧ Q .normal a w') r a I) : (Code.region id ops true).wp P Q a w := by
  refine wp_region_noPanic (wp_region_held hm (S := S) ?_)
  have k := store_of (md := .any) (Q := NoPanic Q) (S := S) (s := s) hsel (fun _ _ _ _ _ h => h) ?_ r _ a I _ hok hc hI h
  · rw [← hlen] at k; exact k
  · rintro a w ⟨w', e1, e2, e3⟩
    unfold wpOp
    simp only [hs0, wanted_of hgs, if_true]
    refine .inl ?_
    unfold Oper.wp
    rw [e1]
    show S w' ∧ NoPanic Q .normal (a.put os.dst undef) w'
    rw [hds]
    exact ⟨e2, NoPanic.normal e3⟩
/-- THE LAW. -/
theorem region_alloc {id : Nat} {a : Act} {w : World} (r : List (Bool × Nat)) (i0 s d0 : Nat) (ts : List (Nat × Tmp × Tmp)) (oa os : Oper) (obj : Obj) (cells : List Value) (n0 : Nat) (S I : World → Prop) (T : TypeId) (x y : Operand)
    (hm : P.follows .mixedOrders = true) (hok : chainOk .any ops oa i0 s ts r (Array.replicate ops.size false) = true) (hlen : ops.size = r.length + ts.length + 1 + 1) (has : assigns ops ts = true) (hsel : Region.noSelect ops = true)
    (ha0 : ops[i0]? = some oa) (hga : oa.guard = none) (hd : oa.dst = some d0) (hal : ∀ (a : Act) (w : World), (execOp a.eval oa).run P w = .ok (.value (ptr w.heap.size)) (w.alloc obj))
    (hs0 : ops[s]? = some os) (hgs : os.guard = none) (hds : os.dst = none) (hos : os.op = .store T (.tmp d0) y) 
    (hc : Clo n0 obj S I) (hI : I w.drew)
    (h : chainA P ops S n0 obj (atEnd n0 obj fun a w g => ∃ cells : Array Value, (a.put (some d0) (ptr g)).eval (.tmp d0) = ptr g ∧ (a.put (some d0) (ptr g)).eval y = .agg cells ∧ w.there g 0 cells.size ∧ (P.info? T).map (·.size) = some cells.size ∧ cells.all (·.oneCell') = true ∧ S (w.setCells g 0 cells.toList) ∧ ∃ a'', runsTo ts (a.put (some d0) (ptr g)) a'' ∧ Q .normal a'' (w.setCells g 0 cells.toList)) r a I) :
    (Code.region id ops true).wp P Q a w := by
  refine wp_region_noPanic (wp_region_held hm (S := S) ?_)
  have k := yet_of (md := .any) (Q := NoPanic Q) hsel (fun _ _ _ _ _ h => h) hd ha0 ⟨os, hs0, hgs⟩ has ?_ hga hal r _ a I _ hok hc hI h
  · rw [← hlen] at k; exact k
  rintro a w g ⟨cells, e1, e2, h1, h2, h3, h4, a'', h5, h6⟩
  unfold wpOp
  simp only [hs0, wanted_of hgs, if_true]
  refine .inl (wp_store_mid T (.tmp d0) y hos g 0 cells e1 e2 h1 h2 h3 ?_)
  rw [hds]
  exact ⟨h4, a'', h5, NoPanic.normal h6⟩
end
end Go.Proofs.Ytjpfjgoebdogjaa.reg

/- Steps through a region that draws its order: loads, calls, what is told at once. -/
namespace Go.Proofs.Ytjpfjgoebdogjaa.reg
open Go.RowKit
open cards
set_option linter.unusedVariables false

def BI (W : World) (w' : World) : Prop := Below W.heap.size W w'
theorem clo_BI (W : World) (obj : Obj) : Clo W.heap.size obj (BI W) (BI W) := ⟨fun _ h => h, fun _ h => h.size, fun _ h => Below.alloc h h.size _⟩
theorem BI.next {W w w' : World} (h : BI W w) (b : Below w.heap.size w w') : BI W w' := Below.trans h (b.mono h.size)
theorem BI.start (W : World) : BI W W.drew := (Below.refl _ _).drew
section
variable {ops : Array Oper} {Q : Exit → Act → World → Prop} {n0 : Nat} {obj : Obj} {fin : Act → (World → Prop) → Prop} {S : World → Prop}
theorem chain_call (d : Tmp) {i : Nat} {r : List (Bool × Nat)} {a : Act} {W : World} {f : FuncId} {args : Array Value} {v : Value} {o : Oper} (ho : ops[i]? = some o) (hd : o.dst = some d) (hg : o.guard = none)
    (he : ∀ w, (execOp a.eval o).run Try.prog w = .ok (.enter f args) w) (h : ∀ w, BI W w → Calls Try.prog f args w (fun e w' => e = .returned v ∧ Below w.heap.size w w'))
    (hr : chainA Try.prog ops (BI W) W.heap.size obj fin r (a.put (some d) v) (BI W)) : chainA Try.prog ops (BI W) W.heap.size obj fin ((false, i) :: r) a (BI W) :=
  ⟨o, ho, hg, fun w hI => by
    rw [he]
    exact (h w hI).mono fun e w' ⟨h1, h2⟩ => ⟨v, h1, h2, BI W, clo_BI W obj, BI.next hI h2, hd ▸ hr⟩⟩
/-- A call whose answer is not told by its arguments alone. -/
theorem chain_callE (d : Tmp) {i : Nat} {r : List (Bool × Nat)} {a : Act} {I : World → Prop} {f : FuncId} {args : Array Value} {o : Oper} (ho : ops[i]? = some o) (hd : o.dst = some d) (hg : o.guard = none)
    (he : ∀ w, (execOp a.eval o).run Try.prog w = .ok (.enter f args) w)
    (h : ∀ w, I w → Calls Try.prog f args w (fun e w' => ∃ v, e = .returned v ∧ Below w.heap.size w w' ∧ ∃ I', Clo n0 obj S I' ∧ I' w' ∧ chainA Try.prog ops S n0 obj fin r (a.put (some d) v) I')) : chainA Try.prog ops S n0 obj fin ((false, i) :: r) a I :=
  ⟨o, ho, hg, fun w hI => by
    rw [he]
    exact (h w hI).mono fun e w' ⟨v, h1, h2, h3⟩ => ⟨v, h1, h2, hd ▸ h3⟩⟩
theorem chain_pure (d : Tmp) {i : Nat} {r : List (Bool × Nat)} {a : Act} {I : World → Prop} {v : Value} {o : Oper} (ho : ops[i]? = some o) (hd : o.dst = some d) (hg : o.guard = none)
    (he : ∀ w, (execOp a.eval o).run Try.prog w = .ok (.value v) w)
    (hr : chainA Try.prog ops S n0 obj fin r (a.put (some d) v) I) : chainA Try.prog ops S n0 obj fin ((true, i) :: r) a I :=
  ⟨o, v, ho, .inl ⟨wanted_of hg, fun w _ => he w⟩, hd ▸ hr⟩
theorem chain_load (d : Tmp) {i : Nat} {r : List (Bool × Nat)} {a : Act} {I : World → Prop} {o : Oper} (ho : ops[i]? = some o) (hd : o.dst = some d) (hg : o.guard = none)
    (T : TypeId) (x : Operand) (hx : o.op = .load T x) {g : Nat} (hp : a.eval x = .pointer (some ⟨g, 0, none⟩)) {t : TypeId} (cs : Array Value) {D : TypeDesc} (hS : ∀ w, S w → w.heap[g]? = some (.cells cs t))
    (hu : Try.prog.underlying T = some D) (hD : D.isRow = true) (hi : (Try.prog.info? T).map (·.size) = some cs.size)
    (hr : chainA Try.prog ops S n0 obj fin r (a.put (some d) (.agg cs)) I) : chainA Try.prog ops S n0 obj fin ((true, i) :: r) a I :=
  ⟨o, .agg cs, ho, yieldsIf_load_mid (wanted_of hg) T x hx g 0 hp cs.toList D (fun w hw j v hv => by rw [cell_of_row w g _ _ _ _ (hS w hw), Nat.zero_add]; simpa using hv) hu hD (by simpa using hi), hd ▸ hr⟩
end
section
variable {ops : Array Oper} {Q : Exit → Act → World → Prop}
/-- A region without a new block: what is known is that nothing has turned. -/
theorem region_BI {id : Nat} {a : Act} {W : World} (r : List (Bool × Nat))
    (hok : chainOkP .any ops r (Array.replicate ops.size false) = true) (hlen : ops.size = r.length) (hsel : Region.noSelect ops = true)
    (h : chainA Try.prog ops (BI W) W.heap.size zero.obj (atEndP (Q .normal)) r a (BI W)) : (Code.region id ops true).wp Try.prog Q a W :=
  region_plain r W.heap.size zero.obj (BI W) (BI W) (by kernel_rfl) hok hlen hsel (fun _ h => h) (BI.start W) h
end
end Go.Proofs.Ytjpfjgoebdogjaa.reg

/- Blocks that hold an array of whatever type: what is known of them is the whole row of their cells. -/
namespace Go.Proofs.Ytjpfjgoebdogjaa.cards
open Go.RowKit
open reg
set_option linter.unusedVariables false

/-- Block g holds just these cells. -/
def VB (w : World) (g : Nat) (T : TypeId) (cs : Array Value) : Prop := w.heap[g]? = some (.cells cs T)
section
variable {w w1 : World} {g : Nat} {T : TypeId} {cs : Array Value}
theorem VB.lt (h : VB w g T cs) : g < w.heap.size := (Array.getElem?_eq_some_iff.1 h).1
theorem VB.newAt {o : Obj} (h : w.heap.size = g) (ho : o = .cells cs T) : VB (w.alloc o) g T cs := by subst h; subst ho; exact heap_alloc_new w _
theorem VB.alloc (h : VB w g T cs) (o : Obj) : VB (w.alloc o) g T cs := (Below.heap_alloc w o g h.lt).trans h
theorem VB.drew (h : VB w g T cs) : VB w.drew g T cs := h
theorem VB.drewN (h : VB w g T cs) (n : Nat) : VB (w.drewN n) g T cs := h
theorem VB.below (h : VB w g T cs) (b : Below w.heap.size w w1) : VB w1 g T cs := (b.block g h.lt).trans h
theorem VB.under {B : Nat} (h : VB w g T cs) (hg : g < B) (b : Below B w w1) : VB w1 g T cs := (b.block g hg).trans h
theorem VB.frozen (h : VB w g T cs) : ∀ i, w.frozen? ⟨g, i, none⟩ = false := fun i => frozen_of_row w g i _ _ h
theorem VB.far (h : VB w g T cs) {p : Addr} (hp : g ≠ p.block) (u : Value) : VB (w.setCell p u) g T cs := (Below.heap_setCell w p u g hp).trans h
theorem VB.marked {row : Option Nat} (h : VB w g T cs) (hg : w.grownBy w1 row) (h2 : row ≠ some g) : VB w1 g T cs := (hg.block g h.lt (Ne.symm h2)).trans h
theorem VB.at_ (h : VB w g T cs) {j : Nat} {v : Value} (hj : cs[j]? = some v) : w.cell? ⟨g, j, none⟩ = some v := by
  unfold VB at h; rw [cell_of_row w g j _ _ _ h]; exact hj
theorem VB.set_ (h : VB w g T cs) {cs' : Array Value} {j : Nat} {v : Value} (hc : cs.set! j v = cs') : VB (w.setCell ⟨g, j, none⟩ v) g T cs' := by
  unfold VB at h ⊢
  rw [heap_setCell_same _ g j _ _ _ h, ← hc]; rfl
theorem VB.there (h : VB w g T cs) : w.there g 0 cs.size := fun j hj => ⟨by rw [Nat.zero_add, h.at_ (Array.getElem?_eq_getElem hj)]; rfl, h.frozen _⟩
end
theorem setCells_row : ∀ (vs : List Value) (o : Nat) (w : World) (g : Nat) (cs : Array Value) (t : TypeId), w.heap[g]? = some (.cells cs t) → ∃ cs', (w.setCells g o vs).heap[g]? = some (.cells cs' t) ∧ cs'.size = cs.size ∧ ∀ i, cs'[i]? = if o ≤ i ∧ i < o + vs.length ∧ i < cs.size then vs[i - o]? else cs[i]?
  | [], o, w, g, cs, t, h => ⟨cs, h, rfl, fun i => by rw [if_neg (by simp; omega)]⟩
  | v :: r, o, w, g, cs, t, h => by
    obtain ⟨cs', h1, h2, h3⟩ := setCells_row r (o + 1) (w.setCell ⟨g, o, none⟩ v) g (cs.set! o v) t (heap_setCell_same _ g o _ _ _ h)
    refine ⟨cs', h1, by rw [h2]; simp, fun i => ?_⟩
    rw [h3 i]
    have hs : (cs.set! o v).size = cs.size := by simp
    rw [hs]
    by_cases e1 : o + 1 ≤ i ∧ i < o + 1 + r.length ∧ i < cs.size
    · rw [if_pos e1, if_pos (by simp; omega), show i - o = (i - (o + 1)) + 1 by omega]; rfl
    · rw [if_neg e1]
      by_cases e2 : o ≤ i ∧ i < o + (v :: r).length ∧ i < cs.size
      · obtain rfl : i = o := by simp at e2; omega
        rw [if_pos e2, Nat.sub_self]
        simp [e2.2.2]
      · rw [if_neg e2]
        rw [Array.set!_eq_setIfInBounds, Array.getElem?_setIfInBounds]
        by_cases e3 : o = i
        · subst e3
          have : ¬ o < cs.size := by simp at e2; omega
          simp [this]
        · simp [e3]
theorem VB.stored {w : World} {g : Nat} {T : TypeId} {cs cs2 : Array Value} (h : VB w g T cs) (hs : cs2.size = cs.size) : VB (w.setCells g 0 cs2.toList) g T cs2 := by
  obtain ⟨cs', h1, h2, h3⟩ := setCells_row cs2.toList 0 w g _ _ h
  unfold VB
  rw [h1]
  have : cs' = cs2 := Array.ext_getElem? (fun i => by
    rw [h3 i]
    by_cases hi : i < cs.size
    · rw [if_pos (by simp; omega)]; simp
    · rw [if_neg (by omega), Array.getElem?_eq_none (by omega), Array.getElem?_eq_none (by omega)])
  rw [this]
theorem VB.load {w : World} {g : Nat} {T : TypeId} {cs : Array Value} (h : VB w g T cs) {K : Nat} {e : TypeId} (hu : (Try.prog).underlying T = some (.array K e)) (hi : ((Try.prog).info? T).map (·.size) = some cs.size) : (loadVar T ⟨g, 0, none⟩).run Try.prog w = .ok (.agg cs) w :=
  run_loadVar_row w g T T cs (0, 0) _ h hu rfl hi
theorem take_vb {ops : Array Oper} {rest : List Oper} {o : Oper} {a : Act} {w : World} {Q : Exit → Act → World → Prop} (hgd : o.guard = none) (T : TypeId) (x : Operand) (ho : o.op = .load T x) {g : Nat} {cs : Array Value} (h : VB w g T cs) {K : Nat} {e : TypeId} (hu : (Try.prog).underlying T = some (.array K e)) (hi : ((Try.prog).info? T).map (·.size) = some cs.size)
    (hx : a.eval x = .pointer (some ⟨g, 0, none⟩)) (hk : wpList Try.prog ops Q rest (a.put o.dst (.agg cs)) w) : wpList Try.prog ops Q (o :: rest) a w :=
  wpList_load_row hgd T x ho g hx T cs (0, 0) _ h hu rfl hi hk
theorem grown_setV (w : World) (g i : Nat) (v : Value) : w.grownBy (w.setCell ⟨g, i, none⟩ v) (some g) :=
  ⟨rfl, rfl, rfl, by simp [World.setCell], fun k hk hne => Below.heap_setCell _ _ _ _ (fun e => hne (by rw [e]))⟩
theorem grown_setsV (g : Nat) : ∀ (vs : List Value) (o : Nat) (w : World), w.grownBy (w.setCells g o vs) (some g)
  | [], o, w => World.grownBy.refl w _
  | v :: r, o, w => World.grownBy.trans (grown_setV w g o v) (grown_setsV g r (o + 1) _)
theorem store_vb {ops : Array Oper} {rest : List Oper} {o : Oper} {a : Act} {w : World} {Q : Exit → Act → World → Prop} (hgd : o.guard = none) (T : TypeId) (x y : Operand) (ho : o.op = .store T x y) {g : Nat} {cs : Array Value} (h : VB w g T cs) (hi : ((Try.prog).info? T).map (·.size) = some cs.size) (hx : a.eval x = .pointer (some ⟨g, 0, none⟩))
    (cs2 : Array Value) (hs : cs2.size = cs.size) (h1 : cs2.all (·.oneCell') = true) (hy : a.eval y = .agg cs2) (hk : ∀ w', VB w' g T cs2 → w.grownBy w' (some g) → wpList Try.prog ops Q rest (a.put o.dst undef) w') : wpList Try.prog ops Q (o :: rest) a w :=
  wpList_store_mid hgd T x y ho g 0 cs2 hx hy (by rw [hs]; exact h.there) (by rw [hs]; exact hi) h1 (hk _ (VB.stored h hs) (grown_setsV g _ _ _))
theorem res_vb {fn : Func} {i : Tmp} {T : TypeId} (hf : fn.results = #[.cell i T]) {tmps : Array Value} {w : World} {g : Nat} {cs : Array Value} (ht : tmps.getD i undef = .pointer (some ⟨g, 0, none⟩)) (h : VB w g T cs) {K : Nat} {e : TypeId} (hu : (Try.prog).underlying T = some (.array K e)) (hi : ((Try.prog).info? T).map (·.size) = some cs.size) :
    (results fn tmps).run Try.prog w = .ok (.agg cs) w := by
  have hl := h.load hu hi
  rw [Array.getD_eq_getD_getElem?] at ht
  simp only [results, hf]
  simp [ht, asAddr, hl]
theorem res_vb2 {fn : Func} {i u : Tmp} {T : TypeId} (hf : fn.results = #[.cell i T, .tmp u]) {tmps : Array Value} {w : World} {g : Nat} {cs : Array Value} (ht : tmps.getD i undef = .pointer (some ⟨g, 0, none⟩)) (h : VB w g T cs) {K : Nat} {e : TypeId} (hu : (Try.prog).underlying T = some (.array K e)) (hi : ((Try.prog).info? T).map (·.size) = some cs.size) :
    (results fn tmps).run Try.prog w = .ok (.tuple #[.agg cs, tmps.getD u undef]) w := by
  have hl := h.load hu hi
  rw [results_cell_tmp hf, ht]
  simp [asAddr, hl, Result.andThen]
/-! Single operations, for regions that draw their order. -/
theorem exec_indexN {T : TypeId} {N : Nat} {a : Act} {o : Oper} {p q : Operand} (ho : o.op = .indexAddr T p q) {g : Nat} (hp : a.eval p = .pointer (some ⟨g, 0, none⟩)) (hq : a.eval q = .int .i64 N)
    (hrun : ∀ w : World, (Instr.indexAt T (.pointer (some ⟨g, 0, none⟩)) (.int .i64 N)).run Try.prog w = .ok (.pointer (some ⟨g, N, none⟩)) w) (w : World) :
    (execOp a.eval o).run Try.prog w = .ok (.value (.pointer (some ⟨g, N, none⟩))) w := by
  unfold execOp
  rw [ho]
  simp only [hp, hq]
  simp [hrun, Result.andThen]
theorem exec_add1 {v : Int} (hv : 0 ≤ v ∧ v ≤ 1000000) {a : Act} {o : Oper} {p : Operand} {s : TypeId} (ho : o.op = .binOp .add 3 p (.const (.int .i64 1)) s) (hp : a.eval p = .int .i64 v) (w : World) :
    (execOp a.eval o).run Try.prog w = .ok (.value (.int .i64 (v + 1))) w := by
  have h0 : (0 : Int) ≤ v := by omega
  have h1 : v ≤ 1000000 := by omega
  unfold execOp
  rw [ho]
  simp only [hp]
  go_simp
  exact IntWalk.i64_in _ (by omega)
theorem exec_storeI {a : Act} {o : Oper} {p q : Operand} (ho : o.op = .store 3 p q) {g j : Nat} {x v : Int} (hp : a.eval p = .pointer (some ⟨g, j, none⟩)) (hq : a.eval q = .int .i64 v) {w : World} (hc : w.cell? ⟨g, j, none⟩ = some (.int .i64 x)) (hf : w.frozen? ⟨g, j, none⟩ = false) :
    (execOp a.eval o).run Try.prog w = .ok .skip (w.setCell ⟨g, j, none⟩ (.int .i64 v)) := by
  unfold execOp
  rw [ho]
  simp only [hp, hq]
  go_simp
theorem exec_loadI {a : Act} {o : Oper} {p : Operand} (ho : o.op = .load 3 p) {g j : Nat} {x : Int} (hp : a.eval p = .pointer (some ⟨g, j, none⟩)) {w : World} (hc : w.cell? ⟨g, j, none⟩ = some (.int .i64 x)) :
    (execOp a.eval o).run Try.prog w = .ok (.value (.int .i64 x)) w := by
  unfold execOp
  rw [ho]
  simp only [hp]
  go_simp
/-- A number is read out of a cell, as an operation that is carried out. -/
theorem chain_loadI {ops : Array Oper} {S I : World → Prop} {n0 : Nat} {obj : Obj} {fin : Act → (World → Prop) → Prop} (d : Tmp) {i : Nat} {r : List (Bool × Nat)} {a : Act} {o : Oper} {p : Operand} {g j : Nat} {x : Int} (ho : ops[i]? = some o) (hd : o.dst = some d) (hg : o.guard = none) (hop : o.op = .load 3 p)
    (hp : a.eval p = .pointer (some ⟨g, j, none⟩)) (hc : ∀ w, I w → w.cell? ⟨g, j, none⟩ = some (.int .i64 x)) (hS : ∀ w, I w → S w) (hn : ∀ w, I w → n0 ≤ w.heap.size) (hal : ∀ w, I w → I (w.alloc obj))
    (hr : chainA Try.prog ops S n0 obj fin r (a.put (some d) (.int .i64 x)) I) : chainA Try.prog ops S n0 obj fin ((false, i) :: r) a I :=
  ⟨o, ho, hg, fun w hI => by
    rw [exec_loadI hop hp (hc w hI)]
    exact ⟨Below.refl _ _, I, ⟨hS, hn, hal⟩, hI, hd ▸ hr⟩⟩
end Go.Proofs.Ytjpfjgoebdogjaa.cards

/- Regions that draw their order and end in one store into a block that was there: what stays is all but that block. -/
namespace Go.Proofs.Ytjpfjgoebdogjaa.cards
open Go.RowKit
open reg
set_option linter.unusedVariables false

/-- All but block g is as it was. -/
def GS (W : World) (g : Nat) (w' : World) : Prop := W.grownBy w' (some g)
theorem BI.gs {W w' : World} (g : Nat) (h : BI W w') : GS W g w' := ⟨Below.os h, Below.tape h, Below.output h, Below.size h, fun j hj _ => Below.block h j hj⟩
theorem clo_GS (W : World) (g : Nat) (obj : Obj) : Clo W.heap.size obj (GS W g) (BI W) := ⟨fun _ h => BI.gs g h, fun _ h => Below.size h, fun _ h => Below.alloc h (Below.size h) _⟩
theorem GS.set_ {W w' : World} {g : Nat} (h : GS W g w') (j : Nat) (v : Value) : GS W g (w'.setCell ⟨g, j, none⟩ v) := World.grownBy.trans h (grown_setV _ _ _ _)
theorem GS.box {W w' : World} {g k : Nat} {x : Cd} (h : GS W g w') (hb : Box W k x) (hk : k ≠ g) : Box w' k x := (World.grownBy.block h k hb.lt (fun e => hk (by injection e))).trans hb
theorem GS.cell {W w' : World} {g b o : Nat} {v : Value} (h : GS W g w') (hc : W.cell? ⟨b, o, none⟩ = some v) (hb : b < W.heap.size) (hk : b ≠ g) : w'.cell? ⟨b, o, none⟩ = some v := by
  have e := World.grownBy.block h b hb (fun e => hk (by injection e))
  unfold World.cell? at hc ⊢
  rw [e]; exact hc
section
variable {ops : Array Oper} {Q : Exit → Act → World → Prop} {n0 : Nat} {obj : Obj} {fin : Act → (World → Prop) → Prop} {S : World → Prop}
theorem chain_callG (d : Tmp) {i : Nat} {r : List (Bool × Nat)} {a : Act} {W : World} {g : Nat} {f : FuncId} {args : Array Value} {v : Value} {o : Oper} (ho : ops[i]? = some o) (hd : o.dst = some d) (hg : o.guard = none)
    (he : ∀ w, (execOp a.eval o).run Try.prog w = .ok (.enter f args) w) (h : ∀ w, BI W w → Calls Try.prog f args w (fun e w' => e = .returned v ∧ Below w.heap.size w w'))
    (hr : chainA Try.prog ops (GS W g) W.heap.size obj fin r (a.put (some d) v) (BI W)) : chainA Try.prog ops (GS W g) W.heap.size obj fin ((false, i) :: r) a (BI W) :=
  ⟨o, ho, hg, fun w hI => by
    rw [he]
    exact (h w hI).mono fun e w' ⟨h1, h2⟩ => ⟨v, h1, h2, BI W, clo_GS W g obj, BI.next hI h2, hd ▸ hr⟩⟩
/-- A card is read out of a row. -/
theorem chain_card (d : Tmp) {i : Nat} {r : List (Bool × Nat)} {a : Act} {I : World → Prop} {o : Oper} (ho : ops[i]? = some o) (hd : o.dst = some d) (hg : o.guard = none)
    (x : Operand) (hx : o.op = .load 34 x) {g off : Nat} (hp : a.eval x = .pointer (some ⟨g, off, none⟩)) (c : Cd)
    (hS : ∀ w, S w → w.cell? ⟨g, off, none⟩ = some (.int .i64 c.a) ∧ w.cell? ⟨g, off + 1, none⟩ = some (.int .i64 c.b) ∧ w.cell? ⟨g, off + 2, none⟩ = some (.int .i64 c.c) ∧ w.cell? ⟨g, off + 3, none⟩ = some (.int .i64 c.d))
    (hr : chainA Try.prog ops S n0 obj fin r (a.put (some d) c.val) I) : chainA Try.prog ops S n0 obj fin ((true, i) :: r) a I :=
  ⟨o, c.val, ho, yieldsIf_load_mid (wanted_of hg) 34 x hx g off hp c.cells _ (fun w hw j v hv => by
    obtain ⟨h0, h1, h2, h3⟩ := hS w hw
    match j, hv with
    | 0, hv => simp [Cd.cells] at hv; rw [← hv]; exact h0
    | 1, hv => simp [Cd.cells] at hv; rw [← hv]; exact h1
    | 2, hv => simp [Cd.cells] at hv; rw [← hv]; exact h2
    | 3, hv => simp [Cd.cells] at hv; rw [← hv]; exact h3
    | n + 4, hv => simp [Cd.cells] at hv) Try.underlying34 rfl (by kernel_rfl), hd ▸ hr⟩
/-- THE LAW of a region that ends in a store of one cell into block g. -/
theorem region_storeG {id : Nat} {a : Act} {W : World} (g : Nat) (r : List (Bool × Nat)) (s : Nat) (os : Oper)
    (hok : chainOkS .any ops s r (Array.replicate ops.size false) = true) (hlen : ops.size = r.length + 1) (hsel : Region.noSelect ops = true)
    (hs0 : ops[s]? = some os) (hgs : os.guard = none) (hds : os.dst = none)
    (h : chainA Try.prog ops (GS W g) W.heap.size zero.obj (atEndP fun a w => ∃ w', (execOp a.eval os).run Try.prog w = .ok .skip w' ∧ GS W g w' ∧ Q .normal a w') r a (BI W)) : (Code.region id ops true).wp Try.prog Q a W :=
  region_store r s os W.heap.size zero.obj (GS W g) (BI W) (by kernel_rfl) hok hlen hsel hs0 hgs hds (fun _ h => BI.gs g h) (BI.start W) h
theorem exec_indexS {k n b ad cp : Nat} (hk : k < n) {a : Act} {o : Oper} {p q : Operand} (ho : o.op = .indexAddr 22 p q) (hp : a.eval p = .slice (some ⟨b, ad, none⟩) n cp) (hq : a.eval q = .int .i64 k) (w : World) :
    (execOp a.eval o).run Try.prog w = .ok (.value (.pointer (some ⟨b, ad + k * 4, none⟩))) w := by
  have h0 : (0 : Int) ≤ (k : Int) := by omega
  have h1 : (k : Int) < (n : Int) := by omega
  unfold execOp
  rw [ho]
  simp only [hp, hq]
  go_simp
theorem exec_index3 {N : Nat} (hN : N < 3) {a : Act} {o : Oper} {p q : Operand} (ho : o.op = .indexAddr 59 p q) {g : Nat} (hp : a.eval p = .pointer (some ⟨g, 0, none⟩)) (hq : a.eval q = .int .i64 N) (w : World) :
    (execOp a.eval o).run Try.prog w = .ok (.value (.pointer (some ⟨g, N, none⟩))) w := by
  have h0 : (0 : Int) ≤ (N : Int) := by omega
  have h1 : (N : Int) < 3 := by omega
  unfold execOp
  rw [ho]
  simp only [hp, hq]
  go_simp
/-- THE LAW of a region with a new block of an array of type T, into which the last operation stores. -/
theorem region_vb {id : Nat} {a : Act} {W : World} (T : TypeId) (cs0 : Array Value) (r : List (Bool × Nat)) (i0 s d0 : Nat) (ts : List (Nat × Tmp × Tmp)) (oa os : Oper) (t : Tmp)
    (hi : ((Try.prog).info? T).map (·.size) = some cs0.size) (hal : ∀ (w : World), (Instr.alloc T true (.tuple #[])).run Try.prog w = .ok (ptr w.heap.size) (w.alloc (.cells cs0 T)))
    (hok : chainOk .any ops oa i0 s ts r (Array.replicate ops.size false) = true) (hlen : ops.size = r.length + ts.length + 1 + 1) (has : assigns ops ts = true) (hsel : Region.noSelect ops = true)
    (ha0 : ops[i0]? = some oa) (hga : oa.guard = none) (hd : oa.dst = some d0) (hoa : oa.op = .alloc T)
    (hs0 : ops[s]? = some os) (hgs : os.guard = none) (hds : os.dst = none) (hos : os.op = .store T (.tmp d0) (.tmp t)) (hne : t ≠ d0) (hsz : d0 < a.tmps.size)
    (h : chainA Try.prog ops (BI W) W.heap.size (.cells cs0 T) (atEnd W.heap.size (.cells cs0 T) fun b w g => b.tmps.size = a.tmps.size ∧ ∃ cs : Array Value, b.eval (.tmp t) = .agg cs ∧ cs.size = cs0.size ∧ cs.all (·.oneCell') = true ∧ ∀ w', Hid (VB w' g T cs) → Below W.heap.size W w' → ∃ a', runsTo ts (b.put (some d0) (ptr g)) a' ∧ Q .normal a' w') r a (BI W)) :
    (Code.region id ops true).wp Try.prog Q a W := by
  refine region_alloc r i0 s d0 ts oa os (.cells cs0 T) [] W.heap.size (BI W) (BI W) T (.tmp d0) (.tmp t) (by kernel_rfl) hok hlen has hsel ha0 hga hd ?_ hs0 hgs hds hos (clo_BI W _) (BI.start W) ?_
  · intro a w
    unfold execOp
    rw [hoa]
    simp [hal w, Result.andThen]
  · refine chainA_mono ?_ r a _ (fun _ h => h) h
    intro b I hIS hh w g hI0 hg hb
    obtain ⟨hsb, cs, hm, h1, h2, hk⟩ := hh w g hI0 hg hb
    have hI := hIS w hI0
    have hB : VB w g T cs0 := hb
    have hw : BI W (w.setCells g 0 cs.toList) := Below.grown hI (grown_setsV g _ _ _) (Below.size hI) (fun k hk => by injection hk with hk; omega)
    refine ⟨cs, ?_, ?_, by rw [h1]; exact hB.there, by rw [h1]; exact hi, h2, hw, hk _ (Lib.hid (VB.stored hB h1)) hw⟩
    · show (b.tmps.setIfInBounds d0 (ptr g)).getD d0 undef = ptr g
      simp [hsb, hsz]
    · rw [Act.eval_put (by intro d hd he; cases hd; cases he; exact hne rfl)]; exact hm
end
end Go.Proofs.Ytjpfjgoebdogjaa.cards

/- A region that draws its order, with TWO new blocks among its operations: one walk serves all its orders. What stores stand at its end, one behind the other. -/
namespace Go.Proofs.Ytjpfjgoebdogjaa.cards
open Go.RowKit
open reg
set_option linter.unusedVariables false

section
variable {P : Program} {md : Region.Mode} {ops : Array Oper} {Q : Exit → Act → World → Prop}

def putO (a : Act) (d : Tmp) : Option Nat → Act
  | none => a
  | some g => a.put (some d) (ptr g)
/-- The activation, whichever of the two blocks are made. -/
def putT (a : Act) (d0 d1 : Tmp) (m0 m1 : Option Nat) : Act := putO (putO a d0 m0) d1 m1
theorem putO_put {a : Act} {d : Tmp} {m : Option Nat} {y : Option Tmp} {v : Value} (h : y ≠ some d) : (putO a d m).put y v = putO (a.put y v) d m := by
  cases m with
  | none => rfl
  | some g => exact Act.put_comm a (x := some d) (y := y) (ptr g) v (fun e he => by cases he; exact h)
theorem putT_put {a : Act} {d0 d1 : Tmp} {m0 m1 : Option Nat} {y : Option Tmp} {v : Value} (h0 : y ≠ some d0) (h1 : y ≠ some d1) : (putT a d0 d1 m0 m1).put y v = putT (a.put y v) d0 d1 m0 m1 := by
  unfold putT
  rw [putO_put h1, putO_put h0]
theorem exec_putO {o : Oper} (hs : ∀ cs b, o.op ≠ .select cs b) {a : Act} {d : Tmp} {m : Option Nat} (h : d ∉ o.looksAt ops) : execOp (putO a d m).eval o = execOp a.eval o := by
  cases m with
  | none => rfl
  | some g => exact execOp_put (ops := ops) o hs a (some d) (ptr g) (fun e he => by cases he; exact h)
theorem exec_putT {o : Oper} (hs : ∀ cs b, o.op ≠ .select cs b) {a : Act} {d0 d1 : Tmp} {m0 m1 : Option Nat} (h0 : d0 ∉ o.looksAt ops) (h1 : d1 ∉ o.looksAt ops) : execOp (putT a d0 d1 m0 m1).eval o = execOp a.eval o := by
  unfold putT
  rw [exec_putO hs h1, exec_putO hs h0]
theorem wanted_putO (o : Oper) {a : Act} {d : Tmp} {m : Option Nat} (h : d ∉ o.looksAt ops) : Region.wanted o (yielded ops (putO a d m).tmps) = Region.wanted o (yielded ops a.tmps) := by
  cases m with
  | none => rfl
  | some g => exact wanted_put o a (some d) (ptr g) (fun e he => by cases he; exact h)
theorem wanted_putT (o : Oper) {a : Act} {d0 d1 : Tmp} {m0 m1 : Option Nat} (h0 : d0 ∉ o.looksAt ops) (h1 : d1 ∉ o.looksAt ops) : Region.wanted o (yielded ops (putT a d0 d1 m0 m1).tmps) = Region.wanted o (yielded ops a.tmps) := by
  unfold putT
  rw [wanted_putO o h1, wanted_putO o h0]
/-- An operation that looks at neither slot and sets neither. -/
def farAt (ops : Array Oper) (d0 d1 : Tmp) (i : Nat) : Bool := match ops[i]? with
  | some o => !(o.looksAt ops).contains d0 && !(o.looksAt ops).contains d1 && o.dst != some d0 && o.dst != some d1
  | none => false
theorem farAt_spec {d0 d1 : Tmp} {i : Nat} {o : Oper} (h : farAt ops d0 d1 i = true) (ho : ops[i]? = some o) : d0 ∉ o.looksAt ops ∧ d1 ∉ o.looksAt ops ∧ o.dst ≠ some d0 ∧ o.dst ≠ some d1 := by
  unfold farAt at h
  rw [ho] at h
  simp only [Bool.and_eq_true, Bool.not_eq_true', bne_iff_ne] at h
  obtain ⟨⟨⟨h1, h2⟩, h3⟩, h4⟩ := h
  exact ⟨(fun hm => by rw [List.contains_iff_mem.2 hm] at h1; cases h1), (fun hm => by rw [List.contains_iff_mem.2 hm] at h2; cases h2), h3, h4⟩
def seqS (md : Region.Mode) (ops : Array Oper) : List Nat → Array Bool → Bool
  | [], l => Region.ready md ops l == []
  | j :: r, l => (Region.ready md ops l == [j]) && seqS md ops r (l.setIfInBounds j true)
/-- What comes at the end, one behind the other. -/
def runsS (P : Program) (ops : Array Oper) (S : World → Prop) (K : Act → World → Prop) : List Nat → Act → World → Prop
  | [], a, w => K a w
  | j :: r, a, w => ∃ o w' v, ops[j]? = some o ∧ o.guard = none ∧ ((execOp a.eval o).run P w = .ok (.value v) w' ∨ ((execOp a.eval o).run P w = .ok .skip w' ∧ v = undef)) ∧ S w' ∧ runsS P ops S K r (a.put o.dst v) w'
theorem seq_of {S : World → Prop} : ∀ (st : List Nat) (l : Array Bool) (a : Act) (w : World), seqS md ops st l = true → S w → runsS P ops S (Q .normal) st a w → wpAnyH P md ops Q S st.length l a w
  | [], l, a, w, hok, hS, h => wpAnyH_done (by simpa [seqS] using hok) h 0
  | j :: r, l, a, w, hok, hS, h => by
    simp only [seqS, Bool.and_eq_true, beq_iff_eq] at hok
    obtain ⟨o, w', v, ho, hg, hrun, hS', hr⟩ := h
    refine wpAnyH_all hok.1 (by simp) fun i hi => ?_
    obtain rfl : i = j := by simpa using hi
    unfold wpOp
    simp only [ho, wanted_of hg, if_true]
    refine .inl ?_
    unfold Oper.wp
    rcases hrun with hrun | ⟨hrun, rfl⟩
    · rw [hrun]; exact ⟨hS', seq_of r _ _ _ hok.2 hS' hr⟩
    · rw [hrun]; exact ⟨hS', seq_of r _ _ _ hok.2 hS' hr⟩
def okT (md : Region.Mode) (ops : Array Oper) (i0 i1 : Nat) (d0 d1 : Tmp) (st : List Nat) : Nat → Bool → Bool → List (Bool × Nat) → Array Bool → Bool
  | 0, p0, p1, [], l => !p0 && !p1 && seqS md ops st l
  | 0, _, _, _ :: _, _ => false
  | n + 1, p0, p1, [], l => (Region.ready md ops l != []) && (Region.ready md ops l).all (fun j => (p0 && j == i0) || (p1 && j == i1)) && (!p0 || okT md ops i0 i1 d0 d1 st n false p1 [] (l.setIfInBounds i0 true)) && (!p1 || okT md ops i0 i1 d0 d1 st n p0 false [] (l.setIfInBounds i1 true))
  | n + 1, p0, p1, (true, i) :: r, l => Region.free md ops l i && (Region.ready md ops l).contains i && farAt ops d0 d1 i && okT md ops i0 i1 d0 d1 st n p0 p1 r (l.setIfInBounds i true)
  | n + 1, p0, p1, (false, i) :: r, l => (Region.ready md ops l != []) && (Region.ready md ops l).all (fun j => (j == i) || ((p0 && j == i0) || (p1 && j == i1))) && farAt ops d0 d1 i && okT md ops i0 i1 d0 d1 st n p0 p1 r (l.setIfInBounds i true) && (!p0 || okT md ops i0 i1 d0 d1 st n false p1 ((false, i) :: r) (l.setIfInBounds i0 true)) && (!p1 || okT md ops i0 i1 d0 d1 st n p0 false ((false, i) :: r) (l.setIfInBounds i1 true))
/-- The blocks that are made. -/
def madeO (n0 : Nat) (obj : Obj) (w : World) : Option Nat → Prop
  | none => True
  | some g => n0 ≤ g ∧ w.heap[g]? = some obj
theorem madeO_below {n0 : Nat} {obj : Obj} {w w1 : World} {m : Option Nat} (h : madeO n0 obj w m) (b : Below w.heap.size w w1) : madeO n0 obj w1 m := by
  cases m with
  | none => trivial
  | some g => exact ⟨h.1, (b.block g (Array.getElem?_eq_some_iff.1 h.2).1).trans h.2⟩
def apartO : Option Nat → Option Nat → Prop
  | some g, some k => g ≠ k
  | _, _ => True
/-- What is known holds also with each of the new blocks. -/
structure Clo2 (n0 : Nat) (ob0 ob1 : Obj) (S I : World → Prop) : Prop where
  held : ∀ w, I w → S w
  big : ∀ w, I w → n0 ≤ w.heap.size
  grow0 : ∀ w, I w → I (w.alloc ob0)
  grow1 : ∀ w, I w → I (w.alloc ob1)
def chainT (P : Program) (ops : Array Oper) (S : World → Prop) (n0 : Nat) (ob0 ob1 : Obj) (fin : Act → (World → Prop) → Prop) : List (Bool × Nat) → Act → (World → Prop) → Prop
  | [], a, I => fin a I
  | (true, i) :: r, a, I => ∃ o v, ops[i]? = some o ∧ YieldsIf P ops S o v a ∧ chainT P ops S n0 ob0 ob1 fin r (a.put o.dst v) I
  | (false, i) :: r, a, I => ∃ o, ops[i]? = some o ∧ o.guard = none ∧ ∀ w, I w → Upon P (fun v w' => Below w.heap.size w w' ∧ ∃ I', Clo2 n0 ob0 ob1 S I' ∧ I' w' ∧ chainT P ops S n0 ob0 ob1 fin r (a.put o.dst v) I') ((execOp a.eval o).run P w)

/-- The end: both blocks are made, the stores are to come. -/
def finT (P : Program) (ops : Array Oper) (S : World → Prop) (Q : Exit → Act → World → Prop) (n0 : Nat) (ob0 ob1 : Obj) (st : List Nat) (d0 d1 : Tmp) (b : Act) (I : World → Prop) : Prop :=
  ∀ w g0 g1, I w → n0 ≤ g0 → n0 ≤ g1 → g0 ≠ g1 → w.heap[g0]? = some ob0 → w.heap[g1]? = some ob1 → runsS P ops S (Q .normal) st ((b.put (some d0) (ptr g0)).put (some d1) (ptr g1)) w
variable {S : World → Prop} {n0 : Nat} {ob0 ob1 : Obj} {o0 o1 : Oper} {i0 i1 : Nat} {d0 d1 : Tmp} {st : List Nat}

theorem two_of (hsel : Region.noSelect ops = true) (hQ : ∀ c (d : Option Tmp) v a w, Q (.panic c) (a.put d v) w → Q (.panic c) a w) (hdd : d0 ≠ d1)
    (h0 : ops[i0]? = some o0) (hd0 : o0.dst = some d0) (hg0 : o0.guard = none) (hal0 : ∀ (a : Act) (w : World), (execOp a.eval o0).run P w = .ok (.value (ptr w.heap.size)) (w.alloc ob0))
    (h1 : ops[i1]? = some o1) (hd1 : o1.dst = some d1) (hg1 : o1.guard = none) (hal1 : ∀ (a : Act) (w : World), (execOp a.eval o1).run P w = .ok (.value (ptr w.heap.size)) (w.alloc ob1)) :
    ∀ (n : Nat) (r : List (Bool × Nat)) (m0 m1 : Option Nat) (l : Array Bool) (a : Act) (I : World → Prop) (w : World),
      okT md ops i0 i1 d0 d1 st n m0.isNone m1.isNone r l = true → Clo2 n0 ob0 ob1 S I → I w → madeO n0 ob0 w m0 → madeO n0 ob1 w m1 → apartO m0 m1 →
      chainT P ops S n0 ob0 ob1 (finT P ops S Q n0 ob0 ob1 st d0 d1) r a I →
      wpAnyH P md ops Q S (n + st.length) l (putT a d0 d1 m0 m1) w := by
  have step0 : ∀ (n : Nat) (r : List (Bool × Nat)) (m1 : Option Nat) (l : Array Bool) (a : Act) (I : World → Prop) (w : World), Clo2 n0 ob0 ob1 S I → I w → madeO n0 ob1 w m1 →
      (∀ w' m0, I w' → madeO n0 ob0 w' (some m0) → madeO n0 ob1 w' m1 → apartO (some m0) m1 → wpAnyH P md ops Q S (n + st.length) (l.setIfInBounds i0 true) (putT a d0 d1 (some m0) m1) w') →
      wpOp P ops Q i0 (fun a' w' => S w' ∧ wpAnyH P md ops Q S (n + st.length) (l.setIfInBounds i0 true) a' w') (putT a d0 d1 none m1) w := by
    intro n r m1 l a I w hc hI hm1 hk
    refine wpOp_upon (R := fun v w' => v = ptr w.heap.size ∧ w' = w.alloc ob0) h0 hg0 (by rw [hal0]; exact ⟨rfl, rfl⟩) ?_
    rintro v w' ⟨rfl, rfl⟩
    have hb : Below w.heap.size w (w.alloc ob0) := (Below.refl _ _).alloc (Nat.le_refl _) _
    have e : (putT a d0 d1 none m1).put o0.dst (ptr w.heap.size) = putT a d0 d1 (some w.heap.size) m1 := by
      rw [hd0]
      unfold putT
      rw [putO_put (by intro e; injection e with e; exact hdd e)]
      rfl
    rw [e]
    refine ⟨hc.held _ (hc.grow0 _ hI), hk _ _ (hc.grow0 _ hI) ⟨hc.big _ hI, heap_alloc_new _ _⟩ (madeO_below hm1 hb) ?_⟩
    cases m1 with
    | none => trivial
    | some g => exact fun e => by have := (Array.getElem?_eq_some_iff.1 hm1.2).1; omega
  have step1 : ∀ (n : Nat) (r : List (Bool × Nat)) (m0 : Option Nat) (l : Array Bool) (a : Act) (I : World → Prop) (w : World), Clo2 n0 ob0 ob1 S I → I w → madeO n0 ob0 w m0 →
      (∀ w' m1, I w' → madeO n0 ob0 w' m0 → madeO n0 ob1 w' (some m1) → apartO m0 (some m1) → wpAnyH P md ops Q S (n + st.length) (l.setIfInBounds i1 true) (putT a d0 d1 m0 (some m1)) w') →
      wpOp P ops Q i1 (fun a' w' => S w' ∧ wpAnyH P md ops Q S (n + st.length) (l.setIfInBounds i1 true) a' w') (putT a d0 d1 m0 none) w := by
    intro n r m0 l a I w hc hI hm0 hk
    refine wpOp_upon (R := fun v w' => v = ptr w.heap.size ∧ w' = w.alloc ob1) h1 hg1 (by rw [hal1]; exact ⟨rfl, rfl⟩) ?_
    rintro v w' ⟨rfl, rfl⟩
    have hb : Below w.heap.size w (w.alloc ob1) := (Below.refl _ _).alloc (Nat.le_refl _) _
    have e : (putT a d0 d1 m0 none).put o1.dst (ptr w.heap.size) = putT a d0 d1 m0 (some w.heap.size) := by
      rw [hd1]; rfl
    rw [e]
    refine ⟨hc.held _ (hc.grow1 _ hI), hk _ _ (hc.grow1 _ hI) (madeO_below hm0 hb) ⟨hc.big _ hI, heap_alloc_new _ _⟩ ?_⟩
    cases m0 with
    | none => trivial
    | some g => exact fun e => by have := (Array.getElem?_eq_some_iff.1 hm0.2).1; omega
  intro n
  induction n with
  | zero =>
    intro r m0 m1 l a I w hok hc hI hm0 hm1 hap h
    cases r with
    | cons x r => simp [okT] at hok
    | nil =>
      cases m0 with
      | none => simp [okT] at hok
      | some g0 =>
        cases m1 with
        | none => simp [okT] at hok
        | some g1 =>
          simp only [okT, Option.isNone_some, Bool.not_false, Bool.true_and] at hok
          rw [Nat.zero_add]
          exact seq_of st l _ w hok (hc.held _ hI) (h w g0 g1 hI hm0.1 hm1.1 hap hm0.2 hm1.2)
  | succ n ih =>
    intro r m0 m1 l a I w hok hc hI hm0 hm1 hap h
    rw [show n + 1 + st.length = (n + st.length) + 1 by omega]
    cases r with
    | nil =>
      simp only [okT, Bool.and_eq_true, bne_iff_ne, List.all_eq_true] at hok
      obtain ⟨⟨⟨k1, k2⟩, k3⟩, k4⟩ := hok
      refine wpAnyH_all rfl k1 fun j hj => ?_
      have hj := k2 j hj
      simp only [Bool.or_eq_true, Bool.and_eq_true, beq_iff_eq] at hj
      rcases hj with ⟨hp, rfl⟩ | ⟨hp, rfl⟩
      · cases m0 with
        | some g => simp at hp
        | none =>
          simp only [Option.isNone_none, Bool.not_true, Bool.false_or] at k3
          exact step0 n [] m1 l a I w hc hI hm1 (fun w' g hI' a1 a2 a3 => ih [] (some g) m1 _ a I w' (by simpa using k3) hc hI' a1 a2 a3 h)
      · cases m1 with
        | some g => simp at hp
        | none =>
          simp only [Option.isNone_none, Bool.not_true, Bool.false_or] at k4
          exact step1 n [] m0 l a I w hc hI hm0 (fun w' g hI' a1 a2 a3 => ih [] m0 (some g) _ a I w' (by simpa using k4) hc hI' a1 a2 a3 h)
    | cons x r =>
      obtain ⟨b, i⟩ := x
      cases b with
      | true =>
        simp only [okT, Bool.and_eq_true] at hok
        obtain ⟨⟨⟨k1, k2⟩, k3⟩, k4⟩ := hok
        obtain ⟨o, v, ho, hy, hr⟩ := h
        obtain ⟨f0, f1, f2, f3⟩ := farAt_spec k3 ho
        refine wpAnyH_take (v := v) ho hsel k1 k2 (fun c a w => hQ c _ _ a w) (hy.of_same (exec_putT (Region.noSelect_spec hsel i o · · ho) f0 f1) (wanted_putT o f0 f1)) (hc.held _ hI) ?_
        rw [putT_put f2 f3]
        exact ih r m0 m1 _ _ I w k4 hc hI hm0 hm1 hap hr
      | false =>
        simp only [okT, Bool.and_eq_true, bne_iff_ne, List.all_eq_true] at hok
        obtain ⟨⟨⟨⟨⟨k1, k2⟩, k3⟩, k4⟩, k5⟩, k6⟩ := hok
        have h' := h
        obtain ⟨o, ho, hgd, hr⟩ := h
        obtain ⟨f0, f1, f2, f3⟩ := farAt_spec k3 ho
        refine wpAnyH_all rfl k1 fun j hj => ?_
        have hj := k2 j hj
        simp only [Bool.or_eq_true, Bool.and_eq_true, beq_iff_eq] at hj
        rcases hj with rfl | ⟨hp, rfl⟩ | ⟨hp, rfl⟩
        · refine wpOp_upon (R := fun v w' => Below w.heap.size w w' ∧ ∃ I', Clo2 n0 ob0 ob1 S I' ∧ I' w' ∧ chainT P ops S n0 ob0 ob1 (finT P ops S Q n0 ob0 ob1 st d0 d1) r (a.put o.dst v) I') ho hgd (by rw [exec_putT (Region.noSelect_spec hsel _ o · · ho) f0 f1]; exact hr w hI) fun v w' ⟨hbw, I', hc', hI', hr'⟩ => ?_
          refine ⟨hc'.held _ hI', ?_⟩
          rw [putT_put f2 f3]
          exact ih r m0 m1 _ _ I' w' k4 hc' hI' (madeO_below hm0 hbw) (madeO_below hm1 hbw) hap hr'
        · cases m0 with
          | some g => simp at hp
          | none =>
            simp only [Option.isNone_none, Bool.not_true, Bool.false_or] at k5
            exact step0 n ((false, i) :: r) m1 l a I w hc hI hm1 (fun w' g hI' a1 a2 a3 => ih ((false, i) :: r) (some g) m1 _ a I w' (by simpa using k5) hc hI' a1 a2 a3 h')
        · cases m1 with
          | some g => simp at hp
          | none =>
            simp only [Option.isNone_none, Bool.not_true, Bool.false_or] at k6
            exact step1 n ((false, i) :: r) m0 l a I w hc hI hm0 (fun w' g hI' a1 a2 a3 => ih ((false, i) :: r) m0 (some g) _ a I w' (by simpa using k6) hc hI' a1 a2 a3 h')
/-- THE LAW of a region with two new blocks. -/
theorem region_two {id : Nat} {a : Act} {w : World} (r : List (Bool × Nat)) (i0 i1 d0 d1 : Nat) (st : List Nat) (o0 o1 : Oper) (ob0 ob1 : Obj) (n0 : Nat) (S I : World → Prop)
    (hm : P.follows .mixedOrders = true) (hok : okT .any ops i0 i1 d0 d1 st (r.length + 2) true true r (Array.replicate ops.size false) = true) (hlen : ops.size = r.length + 2 + st.length) (hsel : Region.noSelect ops = true) (hdd : d0 ≠ d1)
    (h0 : ops[i0]? = some o0) (hd0 : o0.dst = some d0) (hg0 : o0.guard = none) (hal0 : ∀ (a : Act) (w : World), (execOp a.eval o0).run P w = .ok (.value (ptr w.heap.size)) (w.alloc ob0))
    (h1 : ops[i1]? = some o1) (hd1 : o1.dst = some d1) (hg1 : o1.guard = none) (hal1 : ∀ (a : Act) (w : World), (execOp a.eval o1).run P w = .ok (.value (ptr w.heap.size)) (w.alloc ob1))
    (hc : Clo2 n0 ob0 ob1 S I) (hI : I w.drew)
    (h : chainT P ops S n0 ob0 ob1 (finT P ops S Q n0 ob0 ob1 st d0 d1) r a I) :
    (Code.region id ops true).wp P Q a w := by
  refine wp_region_noPanic (wp_region_held hm (S := S) ?_)
  have k := two_of (md := .any) (Q := NoPanic Q) (st := st) (i0 := i0) (i1 := i1) hsel (fun _ _ _ _ _ h => h) hdd h0 hd0 hg0 hal0 h1 hd1 hg1 hal1 (r.length + 2) r none none _ a I _ hok hc hI trivial trivial trivial ?_
  · rw [← hlen] at k; exact k
  · have mono : ∀ (st : List Nat) (a : Act) (w : World), runsS P ops S (Q .normal) st a w → runsS P ops S (NoPanic Q .normal) st a w := by
      intro st
      induction st with
      | nil => intro a w h; exact NoPanic.normal h
      | cons j st ih => rintro a w ⟨o, w', v, e1, e2, e3, e4, e5⟩; exact ⟨o, w', v, e1, e2, e3, e4, ih _ _ e5⟩
    have monoC : ∀ (r : List (Bool × Nat)) (a : Act) (I : World → Prop), chainT P ops S n0 ob0 ob1 (finT P ops S Q n0 ob0 ob1 st d0 d1) r a I →
        chainT P ops S n0 ob0 ob1 (finT P ops S (NoPanic Q) n0 ob0 ob1 st d0 d1) r a I := by
      intro r
      induction r with
      | nil => intro a I h w g0 g1 a1 a2 a3 a4 a5 a6; exact mono _ _ _ (h w g0 g1 a1 a2 a3 a4 a5 a6)
      | cons x r ih =>
        obtain ⟨b, i⟩ := x
        cases b with
        | true => rintro a I ⟨o, v, ho, hy, hr⟩; exact ⟨o, v, ho, hy, ih _ _ hr⟩
        | false =>
          rintro a I ⟨o, ho, hg, hr⟩
          refine ⟨o, ho, hg, fun w hw => ?_⟩
          have h := hr w hw
          generalize (execOp a.eval o).run P w = q at h ⊢
          cases q with
          | ok n w' =>
            cases n <;> simp only [Upon] at h ⊢
            case value v => obtain ⟨hb, I', c, j1, j2⟩ := h; exact ⟨hb, I', c, j1, ih _ _ j2⟩
            case enter f args => exact h.mono fun e w'' ⟨v, he, hb, I', c, j1, j2⟩ => ⟨v, he, hb, I', c, j1, ih _ _ j2⟩
          | halt x w' => simp only [Upon] at h
    exact monoC r a I h
end
end Go.Proofs.Ytjpfjgoebdogjaa.cards

/- A region that draws its order: operations that only read, then some that make memory in ANY order (each by its own word on what it makes), then the rest, one behind the other. ONE walk serves all orders. -/
namespace Go.Proofs.Ytjpfjgoebdogjaa.cards
open Go.RowKit
open reg
set_option linter.unusedVariables false

section
variable {P : Program} {md : Region.Mode} {ops : Array Oper} {Q : Exit → Act → World → Prop} {S : World → Prop}
theorem Upon.imp {R R2 : Value → World → Prop} {q : Result Next} (h : Upon P R q) (hi : ∀ v w, R v w → R2 v w) : Upon P R2 q := by
  cases q with
  | ok n w' =>
    cases n <;> simp only [Upon] at h ⊢
    case value v => exact hi _ _ h
    case enter f args => exact h.mono fun e w'' ⟨v, he, hr⟩ => ⟨v, he, hi _ _ hr⟩
  | halt x w' => simp only [Upon] at h
theorem Upon.enter {R : Value → World → Prop} {q : Result Next} {f : FuncId} {args : Array Value} {w : World} (h : q = .ok (.enter f args) w) (hc : Calls P f args w (fun e w' => ∃ v, e = .returned v ∧ R v w')) : Upon P R q := by subst h; exact hc
def okJ (md : Region.Mode) (ops : Array Oper) (st : List Nat) : Nat → List Nat → Array Bool → Bool
  | 0, rem, l => (rem == []) && seqS md ops st l
  | n + 1, rem, l => (Region.ready md ops l != []) && (Region.ready md ops l).all (fun j => rem.contains j && okJ md ops st n (rem.erase j) (l.setIfInBounds j true))
def okPJ (md : Region.Mode) (ops : Array Oper) (js st : List Nat) : List Nat → Array Bool → Bool
  | [], l => okJ md ops st js.length js l
  | i :: r, l => Region.free md ops l i && (Region.ready md ops l).contains i && okPJ md ops js st r (l.setIfInBounds i true)
theorem jobs_of {st : List Nat} {J : List Nat → Act → World → Prop} (hS : ∀ rem a w, J rem a w → S w)
    (hs : ∀ rem j a w, j ∈ rem → J rem a w → ∃ o, ops[j]? = some o ∧ o.guard = none ∧ Upon P (fun v w' => J (rem.erase j) (a.put o.dst v) w') ((execOp a.eval o).run P w))
    (hK : ∀ a w, J [] a w → runsS P ops S (Q .normal) st a w) :
    ∀ (n : Nat) (rem : List Nat) (l : Array Bool) (a : Act) (w : World), okJ md ops st n rem l = true → J rem a w → wpAnyH P md ops Q S (n + st.length) l a w
  | 0, rem, l, a, w, hok, h => by
    simp only [okJ, Bool.and_eq_true, beq_iff_eq] at hok
    obtain ⟨h1, h2⟩ := hok
    subst h1
    rw [Nat.zero_add]
    exact seq_of st l a w h2 (hS _ _ _ h) (hK a w h)
  | n + 1, rem, l, a, w, hok, h => by
    simp only [okJ, Bool.and_eq_true, bne_iff_ne, List.all_eq_true] at hok
    obtain ⟨h1, h2⟩ := hok
    rw [show n + 1 + st.length = (n + st.length) + 1 by omega]
    refine wpAnyH_all rfl h1 fun j hj => ?_
    obtain ⟨h3, h4⟩ := h2 j hj
    obtain ⟨o, ho, hg, hr⟩ := hs rem j a w (List.contains_iff_mem.1 h3) h
    exact wpOp_upon ho hg hr fun v w' hJ => ⟨hS _ _ _ hJ, jobs_of hS hs hK n _ _ _ _ h4 hJ⟩
/-- Operations that only read, each taken at once. -/
def pureJ (P : Program) (ops : Array Oper) (S : World → Prop) (K : Act → Prop) : List Nat → Act → Prop
  | [], a => K a
  | i :: r, a => ∃ o v, ops[i]? = some o ∧ YieldsIf P ops S o v a ∧ pureJ P ops S K r (a.put o.dst v)
theorem pures_of {js st : List Nat} {I : World → Prop} (hsel : Region.noSelect ops = true) (hQ : ∀ c (d : Option Tmp) v a w, Q (.panic c) (a.put d v) w → Q (.panic c) a w) (hc : ∀ w, I w → S w) {K : Act → Prop}
    (hK : ∀ a w l, K a → I w → okJ md ops st js.length js l = true → wpAnyH P md ops Q S (js.length + st.length) l a w) :
    ∀ (r : List Nat) (l : Array Bool) (a : Act) (w : World), okPJ md ops js st r l = true → I w → pureJ P ops S K r a → wpAnyH P md ops Q S (r.length + (js.length + st.length)) l a w
  | [], l, a, w, hok, hI, h => by
    rw [List.length_nil, Nat.zero_add]
    exact hK a w l h hI hok
  | i :: r, l, a, w, hok, hI, h => by
    simp only [okPJ, Bool.and_eq_true] at hok
    obtain ⟨⟨h1, h2⟩, h7⟩ := hok
    obtain ⟨o, v, ho, hy, hr⟩ := h
    rw [List.length_cons, show r.length + 1 + (js.length + st.length) = (r.length + (js.length + st.length)) + 1 by omega]
    exact wpAnyH_take (v := v) ho hsel h1 h2 (fun c a w => hQ c _ _ a w) hy (hc _ hI) (pures_of hsel hQ hc hK r _ _ w h7 hI hr)
abbrev Mk := Nat → Option (Value × Nat × Nat)
def putM (a : Act) (dst : Nat → Tmp) (M : Mk) : List Nat → Act
  | [] => a
  | j :: r => match M j with
    | some x => (putM a dst M r).put (some (dst j)) x.1
    | none => putM a dst M r
def updM (M : Mk) (j : Nat) (x : Value × Nat × Nat) : Mk := fun k => if k = j then some x else M k
theorem putM_off {a : Act} {dst : Nat → Tmp} {M : Mk} {j : Nat} {x : Value × Nat × Nat} : ∀ {js : List Nat}, j ∉ js → putM a dst (updM M j x) js = putM a dst M js
  | [], _ => rfl
  | k :: r, h => by
    have hk : k ≠ j := fun e => h (by simp [e])
    have ih := putM_off (a := a) (dst := dst) (M := M) (x := x) (js := r) (fun hm => h (List.mem_cons_of_mem _ hm))
    have e : updM M j x k = M k := if_neg hk
    simp only [putM, e, ih]
theorem putM_upd {a : Act} {dst : Nat → Tmp} {M : Mk} {j : Nat} {x : Value × Nat × Nat} : ∀ {js : List Nat}, j ∈ js → js.Nodup → (∀ k ∈ js, k ≠ j → dst k ≠ dst j) → M j = none → (putM a dst M js).put (some (dst j)) x.1 = putM a dst (updM M j x) js
  | [], h, _, _, _ => by simp at h
  | k :: r, h, hn, hd, hM => by
    obtain ⟨hkr, hnr⟩ := List.nodup_cons.1 hn
    by_cases hk : k = j
    · subst hk
      have e : updM M k x k = some x := if_pos rfl
      simp only [putM, e, hM, putM_off hkr]
    · have hj : j ∈ r := by
        rcases List.mem_cons.1 h with e | e
        · exact absurd e.symm hk
        · exact e
      have ih := putM_upd (a := a) (dst := dst) (M := M) (x := x) hj hnr (fun k' hk' => hd k' (by simp [hk'])) hM
      have e : updM M j x k = M k := if_neg hk
      have hne := hd k (by simp) hk
      simp only [putM, e]
      cases hMk : M k with
      | none => exact ih
      | some y =>
        simp only
        rw [← ih]
        exact Act.put_comm _ (x := some (dst k)) (y := some (dst j)) _ _ (fun e he => by cases he; intro h2; injection h2 with h2; exact hne h2.symm)
theorem exec_putM {o : Oper} (hs : ∀ cs b, o.op ≠ .select cs b) {a : Act} {dst : Nat → Tmp} {M : Mk} : ∀ {js : List Nat}, (∀ k ∈ js, dst k ∉ o.looksAt ops) → execOp (putM a dst M js).eval o = execOp a.eval o
  | [], _ => rfl
  | k :: r, h => by
    have ih := exec_putM hs (a := a) (dst := dst) (M := M) (js := r) (fun k' hk' => h k' (by simp [hk']))
    simp only [putM]
    split
    · rw [execOp_put (ops := ops) o hs _ (some (dst k)) _ (fun e he => by cases he; exact h k (by simp)), ih]
    · exact ih
/-- What each of the jobs does, and what is to come behind them all. -/
structure JobsK (P : Program) (ops : Array Oper) (S I : World → Prop) (Q : Exit → Act → World → Prop) (n0 : Nat) (js st : List Nat) (dst : Nat → Tmp) (R : Nat → Value → Nat → Nat → World → Prop) (a0 : Act) : Prop where
  job : ∀ j ∈ js, ∃ o, ops[j]? = some o ∧ o.guard = none ∧ o.dst = some (dst j) ∧ (∀ k ∈ js, dst k ∉ o.looksAt ops) ∧ ∀ w, I w → Upon P (fun v w' => Below w.heap.size w w' ∧ R j v w.heap.size w'.heap.size w') ((execOp a0.eval o).run P w)
  fin : ∀ (w : World) (M : Mk), I w → (∀ j ∈ js, ∃ x, M j = some x ∧ n0 ≤ x.2.1 ∧ x.2.1 ≤ x.2.2 ∧ x.2.2 ≤ w.heap.size ∧ R j x.1 x.2.1 x.2.2 w) → (∀ j ∈ js, ∀ k ∈ js, j ≠ k → ∀ x y, M j = some x → M k = some y → x.2.2 ≤ y.2.1 ∨ y.2.2 ≤ x.2.1) → runsS P ops S (Q .normal) st (putM a0 dst M js) w
theorem jobsK_of {S I : World → Prop} {n0 : Nat} {js st : List Nat} {dst : Nat → Tmp} {R : Nat → Value → Nat → Nat → World → Prop} {a0 : Act} (hsel : Region.noSelect ops = true) (hnd : js.Nodup) (hdst : ∀ j ∈ js, ∀ k ∈ js, j ≠ k → dst j ≠ dst k)
    (hc : ∀ w, I w → S w) (hn0 : ∀ w, I w → n0 ≤ w.heap.size) (hgrow : ∀ w w', I w → Below w.heap.size w w' → I w') (hR : ∀ j v lo hi w w', R j v lo hi w → Below w.heap.size w w' → R j v lo hi w')
    (h : JobsK P ops S I Q n0 js st dst R a0) (l : Array Bool) (w : World) (hI : I w) (hok : okJ md ops st js.length js l = true) : wpAnyH P md ops Q S (js.length + st.length) l a0 w := by
  refine jobs_of (J := fun rem a w => ∃ M : Mk, a = putM a0 dst M js ∧ I w ∧ (∀ k ∈ js, k ∈ rem ↔ M k = none) ∧ (∀ k ∈ js, ∀ x, M k = some x → n0 ≤ x.2.1 ∧ x.2.1 ≤ x.2.2 ∧ x.2.2 ≤ w.heap.size ∧ R k x.1 x.2.1 x.2.2 w) ∧ (∀ j ∈ js, ∀ k ∈ js, j ≠ k → ∀ x y, M j = some x → M k = some y → x.2.2 ≤ y.2.1 ∨ y.2.2 ≤ x.2.1) ∧ rem.Nodup ∧ ∀ k ∈ rem, k ∈ js) ?_ ?_ ?_ js.length js l a0 w hok ?_
  · rintro rem a w ⟨M, _, h2, _⟩
    exact hc _ h2
  · rintro rem j a w hj ⟨M, rfl, h2, h3, h4, h5, h6, h7⟩
    have hjs := h7 j hj
    obtain ⟨o, ho, hg, hd, hl, hu⟩ := h.job j hjs
    refine ⟨o, ho, hg, ?_⟩
    rw [exec_putM (Region.noSelect_spec hsel j o · · ho) hl]
    refine Upon.imp (hu w h2) ?_
    rintro v w' ⟨b, hr⟩
    have hMj : M j = none := (h3 j hjs).1 hj
    refine ⟨updM M j (v, w.heap.size, w'.heap.size), ?_, hgrow _ _ h2 b, ?_, ?_, ?_, h6.erase _, fun k hk => h7 k (List.mem_of_mem_erase hk)⟩
    · rw [hd]
      exact putM_upd (x := (v, w.heap.size, w'.heap.size)) hjs hnd (fun k hk hne => hdst k hk j hjs hne) hMj
    · intro k hk
      unfold updM
      by_cases e : k = j
      · subst e
        rw [if_pos rfl]
        simp [h6.not_mem_erase]
      · rw [if_neg e, List.mem_erase_of_ne e]
        exact h3 k hk
    · intro k hk x hx
      unfold updM at hx
      split at hx
      · rename_i e
        subst e
        injection hx with hx
        subst hx
        exact ⟨hn0 _ h2, b.size, Nat.le_refl _, hr⟩
      · obtain ⟨g1, g2, g3, g4⟩ := h4 k hk x hx
        exact ⟨g1, g2, Nat.le_trans g3 b.size, hR _ _ _ _ _ _ g4 b⟩
    · intro i hi k hk hne x y hx hy
      unfold updM at hx hy
      split at hx
      · rename_i e
        subst e
        rw [if_neg (Ne.symm hne)] at hy
        injection hx with hx
        subst hx
        exact .inr (h4 k hk y hy).2.2.1
      · split at hy
        · rename_i e
          subst e
          injection hy with hy
          subst hy
          exact .inl (h4 i hi x hx).2.2.1
        · exact h5 i hi k hk hne x y hx hy
  · rintro a w ⟨M, rfl, h2, h3, h4, h5, h6, h7⟩
    refine h.fin w M h2 (fun j hj => ?_) h5
    cases hM : M j with
    | none => exact absurd ((h3 j hj).2 hM) (by simp)
    | some x => exact ⟨x, rfl, h4 j hj x hM⟩
  · refine ⟨fun _ => none, ?_, hI, fun k hk => by simp [hk], (fun k hk x hx => by cases hx), (fun i hi k hk hne x y hx => by cases hx), hnd, fun k hk => hk⟩
    have : ∀ js : List Nat, a0 = putM a0 dst (fun _ => none) js := by
      intro js
      induction js with
      | nil => rfl
      | cons j r ih => exact ih
    exact this js
theorem JobsK.noPanic {I : World → Prop} {n0 : Nat} {js st : List Nat} {dst : Nat → Tmp} {R : Nat → Value → Nat → Nat → World → Prop} {a0 : Act} (h : JobsK P ops S I Q n0 js st dst R a0) : JobsK P ops S I (NoPanic Q) n0 js st dst R a0 := by
  refine ⟨h.job, fun w M a1 a2 a3 => ?_⟩
  have mono : ∀ (st : List Nat) (a : Act) (w : World), runsS P ops S (Q .normal) st a w → runsS P ops S (NoPanic Q .normal) st a w := by
    intro st
    induction st with
    | nil => intro a w h; exact NoPanic.normal h
    | cons j st ih => rintro a w ⟨o, w', v, e1, e2, e3, e4, e5⟩; exact ⟨o, w', v, e1, e2, e3, e4, ih _ _ e5⟩
  exact mono _ _ _ (h.fin w M a1 a2 a3)
theorem pureJ_imp {K K2 : Act → Prop} (hK : ∀ a, K a → K2 a) : ∀ (r : List Nat) (a : Act), pureJ P ops S K r a → pureJ P ops S K2 r a
  | [], a, h => hK _ h
  | i :: r, a, ⟨o, v, ho, hy, hr⟩ => ⟨o, v, ho, hy, pureJ_imp hK r _ hr⟩
/-- THE LAW. -/
theorem region_jobs {id : Nat} {a : Act} {w : World} (r js st : List Nat) (dst : Nat → Tmp) (R : Nat → Value → Nat → Nat → World → Prop) (n0 : Nat) (S I : World → Prop) (hm : P.follows .mixedOrders = true)
    (hok : okPJ .any ops js st r (Array.replicate ops.size false) = true) (hlen : ops.size = r.length + (js.length + st.length)) (hsel : Region.noSelect ops = true) (hnd : js.Nodup) (hdst : ∀ j ∈ js, ∀ k ∈ js, j ≠ k → dst j ≠ dst k)
    (hc : ∀ w, I w → S w) (hn0 : ∀ w, I w → n0 ≤ w.heap.size) (hgrow : ∀ w w', I w → Below w.heap.size w w' → I w') (hR : ∀ j v lo hi w w', R j v lo hi w → Below w.heap.size w w' → R j v lo hi w') (hI : I w.drew)
    (h : pureJ P ops S (JobsK P ops S I Q n0 js st dst R) r a) : (Code.region id ops true).wp P Q a w := by
  refine wp_region_noPanic (wp_region_held hm (S := S) ?_)
  have k := pures_of (md := .any) (Q := NoPanic Q) (S := S) (I := I) (js := js) (st := st) hsel (fun _ _ _ _ _ h => h) hc (K := JobsK P ops S I Q n0 js st dst R) (fun a w l hK hI hok => jobsK_of hsel hnd hdst hc hn0 hgrow hR hK.noPanic l w hI hok) r _ a _ hok hI h
  rw [← hlen] at k; exact k
/-- The same where what is known of the world is that nothing has turned but from block w.heap.size on. -/
theorem region_jobsB {id : Nat} {a : Act} {w : World} (r js st : List Nat) (dst : Nat → Tmp) (R : Nat → Value → Nat → Nat → World → Prop) (hm : P.follows .mixedOrders = true)
    (hok : okPJ .any ops js st r (Array.replicate ops.size false) = true) (hlen : ops.size = r.length + (js.length + st.length)) (hsel : Region.noSelect ops = true) (hnd : js.Nodup) (hdst : ∀ j ∈ js, ∀ k ∈ js, j ≠ k → dst j ≠ dst k)
    (hR : ∀ j v lo hi w w', R j v lo hi w → Below w.heap.size w w' → R j v lo hi w') (S : World → Prop) (hc : ∀ w', BI w w' → S w')
    (h : pureJ P ops S (JobsK P ops S (BI w) Q w.heap.size js st dst R) r a) : (Code.region id ops true).wp P Q a w :=
  region_jobs r js st dst R w.heap.size S (BI w) hm hok hlen hsel hnd hdst hc (fun _ h => Below.size h) (fun _ _ h b => BI.next h b) hR (BI.start w) h
end
section
variable {ops : Array Oper} {S : World → Prop} {K : Act → Prop}
theorem j_pure (d : Tmp) {i : Nat} {r : List Nat} {a : Act} {v : Value} {o : Oper} (ho : ops[i]? = some o) (hd : o.dst = some d) (hg : o.guard = none)
    (he : ∀ w, (execOp a.eval o).run Try.prog w = .ok (.value v) w) (hr : pureJ Try.prog ops S K r (a.put (some d) v)) : pureJ Try.prog ops S K (i :: r) a :=
  ⟨o, v, ho, .inl ⟨wanted_of hg, fun w _ => he w⟩, hd ▸ hr⟩
/-- One cell is read. -/
theorem j_cell (d : Tmp) {i : Nat} {r : List Nat} {a : Act} {v : Value} {o : Oper} {T : TypeId} {x : Operand} {p : Addr} (ho : ops[i]? = some o) (hd : o.dst = some d) (hg : o.guard = none) (hop : o.op = .load T x) (hx : a.eval x = .pointer (some p))
    (hc : ∀ w, S w → (loadVar T p).run Try.prog w = .ok v w) (hr : pureJ Try.prog ops S K r (a.put (some d) v)) : pureJ Try.prog ops S K (i :: r) a :=
  ⟨o, v, ho, .inl ⟨wanted_of hg, fun w hw => by
    unfold execOp
    rw [hop]
    simp only [hx]
    have h := hc w hw
    simp [Instr.loadAt, Instr.sureAddr, asAddr, h, Result.andThen]⟩, hd ▸ hr⟩
end
end Go.Proofs.Ytjpfjgoebdogjaa.cards

/- New games: the program's and the model's. -/
namespace Go.Proofs.Ytjpfjgoebdogjaa.game
open Go.RowKit
open cards deal reg
set_option linter.unusedVariables false

def plI (p : Int) : Bool := decide (1 ≤ p ∧ p ≤ 4)
set_option maxHeartbeats 400000 in
theorem can_play (p : Int) (w : World) :
    Calls Try.prog 65 #[.int .i64 p] w fun e w' => e = .returned (.bool (plI p)) ∧ Below w.heap.size w w' := by
  go_enter Try.func65, Try.ntmps65
  go_wp2
  all_goals go_ret
  all_goals exact ⟨ret_bool (by unfold plI; simp; omega), by repeat (first | with_reducible exact Below.refl _ _ | with_reducible exact HB.out | with_reducible apply Below.drew | with_reducible apply bdN | with_reducible refine Below.alloc ?_ (by first | exact Nat.le_refl _ | with_reducible exact HB.out.size | omega | (simp; done) | (simp; omega) | (have := HB.out.size; simp at *; omega)) _)⟩
abbrev gm0 : Gm := ⟨0, 0, [], [], []⟩
noncomputable def newG (s : Int) (n : Nat) : Gm := ⟨s, (newD s).nx, (newD s).l, List.replicate n 0, List.replicate n 0⟩
noncomputable def ngR (s p : Int) : Gm × Bool := if isSd s = true ∧ plI p = true then (newG s p.toNat, true) else (gm0, false)
theorem ngR_len (s p : Int) : (ngR s p).1.l.length ≤ 1000 ∧ (ngR s p).1.sc.length ≤ 1000 ∧ (ngR s p).1.wr.length ≤ 1000 := by
  unfold ngR; split
  · rename_i h
    have h2 := h.2
    unfold plI at h2
    have := of_decide_eq_true h2
    have h3 := (new_facts (s := s)).2.1
    refine ⟨?_, ?_, ?_⟩
    · show (newD s).l.length ≤ _; omega
    · show (List.replicate p.toNat (0 : Int)).length ≤ _; rw [List.length_replicate]; omega
    · show (List.replicate p.toNat (0 : Int)).length ≤ _; rw [List.length_replicate]; omega
  · simp

/-- Three slices in a world, whichever was made first. -/
theorem OwnG.three {w : World} {B C : Nat} {vl vs vw : Value} {l : List Cd} {sc wr : List Int} {a1 b1 a2 b2 a3 b3 : Nat} (h1 : Own w a1 vl l) (h2 : OwnI w a2 vs sc) (h3 : OwnI w a3 vw wr) (c1 : ∀ g, vl.ownBlock = some g → g < b1) (c2 : ∀ g, vs.ownBlock = some g → g < b2) (c3 : ∀ g, vw.ownBlock = some g → g < b3)
    (d12 : b1 ≤ a2 ∨ b2 ≤ a1) (d13 : b1 ≤ a3 ∨ b3 ≤ a1) (d23 : b2 ≤ a3 ∨ b3 ≤ a2) (hB : B ≤ a1 ∧ B ≤ a2 ∧ B ≤ a3) (hC : b1 ≤ C ∧ b2 ≤ C ∧ b3 ≤ C) : OwnG w B C vl vs vw l sc wr :=
  ⟨h1.base hB.1, OwnI.base h2 hB.2.1, OwnI.base h3 hB.2.2, fun g e1 e2 => by have := c1 g e1; have := c2 g e2; have := (h1.span g e1).1; have := (h2.span g e2).1; omega, fun g e1 e2 => by have := c1 g e1; have := c3 g e2; have := (h1.span g e1).1; have := (h3.span g e2).1; omega, fun g e1 e2 => by have := c2 g e1; have := c3 g e2; have := (h2.span g e1).1; have := (h3.span g e2).1; omega,
    fun g e => Nat.lt_of_lt_of_le (c1 g e) hC.1, fun g e => Nat.lt_of_lt_of_le (c2 g e) hC.2.1, fun g e => Nat.lt_of_lt_of_le (c3 g e) hC.2.2⟩

theorem exec_makeI {n : Nat} (hn : n ≤ 1000000000) {a : Act} {o : Oper} {p q : Operand} (ho : o.op = .makeSlice 25 p q) (hp : a.eval p = .int .i64 n) (hq : a.eval q = .int .i64 n) (w : World) :
    (execOp a.eval o).run Try.prog w = .ok (.value (.slice (some ⟨w.heap.size, 0, none⟩) n n)) (w.alloc (.cells (madeCells #[Value.int .i64 0] n) 3)) := by
  unfold execOp
  rw [ho]
  simp only [hp, hq]
  simp [madeI n hn w, Result.andThen]
abbrev cvG (s n : Int) (v u q : Value) : Array Value := #[.int .i64 s, .int .i64 n, v, u, q]
/-- A Game is stored into a block. -/
theorem exec_storeG {w : World} {g : Nat} {s0 n0 : Int} {v0 u0 q0 : Value} (h : GBox w g ⟨33, s0, n0, v0, u0, q0⟩) {a : Act} {o : Oper} {p q : Operand} (ho : o.op = .store 33 p q) {s n : Int} {pl ps pw : Option Addr} {nl cl ns cs nw cw : Nat}
    (hp : a.eval p = .pointer (some ⟨g, 0, none⟩)) (hq : a.eval q = gval s n (.slice pl nl cl) (.slice ps ns cs) (.slice pw nw cw)) : (execOp a.eval o).run Try.prog w = .ok .skip (w.setCells g 0 (cvG s n (.slice pl nl cl) (.slice ps ns cs) (.slice pw nw cw)).toList) := by
  have hv : VB w g 33 (cvG s0 n0 v0 u0 q0) := h
  have hr := run_storeAt_mid (P := Try.prog) w g 0 33 (cvG s n (.slice pl nl cl) (.slice ps ns cs) (.slice pw nw cw)) hv.there (by kernel_rfl) (by simp [Value.oneCell'])
  unfold execOp
  rw [ho]
  simp only [hp, hq]
  simp [hr, Result.andThen]
theorem gbox_sets {w : World} {g : Nat} {t : TypeId} {s0 n0 : Int} {v0 u0 q0 : Value} (h : GBox w g ⟨t, s0, n0, v0, u0, q0⟩) (s n : Int) (v u q : Value) : GBox (w.setCells g 0 (cvG s n v u q).toList) g ⟨t, s, n, v, u, q⟩ := VB.stored (T := t) (cs := cvG s0 n0 v0 u0 q0) (cs2 := cvG s n v u q) h rfl
theorem out_sets (w : World) (g : Nat) (vs : List Value) : Out g (g + 1) w (w.setCells g 0 vs) := Out.grown (grown_setsV g vs 0 w) (fun q e => by injection e with e; omega)
theorem OwnI.madeB (w : World) (n : Nat) : ∀ g, (Value.slice (some ⟨w.heap.size, 0, none⟩) n n).ownBlock = some g → g < w.heap.size + 1 := fun g e => by have e2 : some w.heap.size = some g := e; injection e2 with e2; omega

end Go.Proofs.Ytjpfjgoebdogjaa.game

/- The builtin copy, cards and numbers; a Game copied: the program's. -/
namespace Go.Proofs.Ytjpfjgoebdogjaa.game
open Go.RowKit
open cards deal
set_option linter.unusedVariables false

section
variable {P : Program}
theorem run_copyK (w : World) (dT sT ty elem : TypeId) (K g n : Nat) (a : Addr) (sCap : Nat) (cur : Array Value) (t : TypeId) (cs : List Value)
    (hu : P.underlying dT = some (.slice elem)) (hs : (P.info? elem).map (·.size) = some K)
    (hg : w.heap[g]? = some (.cells cur t (0, 0))) (hn : cs.length = n * K)
    (hsrc : ∀ j v, cs[j]? = some v → w.cell? (a.add j) = some v) (hfit : cur.size = n * K) (h1 : ∀ v ∈ cs, v.oneCell' = true) :
    (Builtin.copy_ #[dT, sT] ty #[.slice (some ⟨g, 0, none⟩) n n, .slice (some a) n sCap]).run P w = .ok (goInt n) (w.setRow g cs.toArray) := by
  have hl := run_loadCells_list (P := P) w a cs hsrc
  have hst := run_storeCells_at P g 0 t cs 0 cur w hg (by omega) h1
  have e : (cur.toList.take (0 + 0) ++ cs ++ cur.toList.drop (0 + 0 + cs.length)).toArray = cs.toArray := by
    have : cur.toList.drop (0 + 0 + cs.length) = [] := List.drop_eq_nil_of_le (by simp; omega)
    rw [this]; simp
  rw [e] at hst
  cases hq : P.info? elem with
  | none => simp [hq] at hs
  | some i =>
    have hi : i.size = K := by simpa [hq] using hs
    simp [Builtin.copy_, run_underlying hu, Builtin.lenOf, Builtin.firstCells, sizeOf, typeInfo, hq, hi, ← hn, hl, hst]
theorem run_copy0 (w : World) (dT sT ty elem : TypeId) (K : Nat) (d a : Option Addr) (sCap : Nat)
    (hu : P.underlying dT = some (.slice elem)) (hs : (P.info? elem).map (·.size) = some K) :
    (Builtin.copy_ #[dT, sT] ty #[.slice d 0 0, .slice a 0 sCap]).run P w = .ok (goInt 0) w := by
  cases hq : P.info? elem with
  | none => simp [hq] at hs
  | some i =>
    have hi : i.size = K := by simpa [hq] using hs
    have hl := fun a : Addr => run_loadCells_list (P := P) w a [] (by simp)
    simp only [List.length_nil] at hl
    cases d <;> cases a <;> simp [Builtin.copy_, run_underlying hu, Builtin.lenOf, Builtin.firstCells, sizeOf, typeInfo, hq, hi, hl, storeCells]
end
theorem addP (b o j : Nat) : (⟨b, o, none⟩ : Addr).add j = ⟨b, o + j, none⟩ := by unfold Addr.add; split <;> simp_all
theorem below_setRow' {w : World} {g : Nat} {B : Nat} (hB : B ≤ g) (cs : Array Value) : Below B w (w.setRow g cs) := ⟨rfl, rfl, rfl, by simp [World.setRow], fun k hk => setRow_other w g k cs (by omega)⟩
/-- Cards are copied into a slice just made. -/
theorem copy_cards {ops : Array Oper} {rest : List Oper} {o : Oper} {a : Act} {Q : Exit → Act → World → Prop} (hgd : o.guard = none) (d s : Operand) (ho : o.op = .call { callee := .builtin .copy, args := #[d, s], argTypes := #[22, 22] })
    {W : World} {g n c : Nat} {p : Option Addr} {l : List Cd} (hg : W.heap.size = g) (hd : a.eval d = .slice (some ⟨g, 0, none⟩) n n) (hs : a.eval s = .slice p n c) (hn : l.length = n) (hr : Rd W p (flat l)) (hnm : n ≤ 1000000000)
    (h : ∀ w', Own w' g (.slice (some ⟨g, 0, none⟩) n n) l → Below g W w' → g < w'.heap.size → wpList Try.prog ops Q rest (a.put o.dst (goInt n)) w') :
    wpList Try.prog ops Q (o :: rest) a (W.alloc (.cells (madeCells (Value.agg #[.int .i64 0, .int .i64 0, .int .i64 0, .int .i64 0]).cells (n * 4)) 34)) := by
  subst hg
  have hi : ((Try.prog).info? 34).map (·.size) = some 4 := by kernel_rfl
  have hb0 : Below W.heap.size W (W.alloc (.cells (madeCells (Value.agg #[.int .i64 0, .int .i64 0, .int .i64 0, .int .i64 0]).cells (n * 4)) 34)) := (Below.refl _ _).alloc (Nat.le_refl _) _
  refine wpList_plain hgd fun K hK => ?_
  by_cases h0 : n = 0
  · subst h0
    have hrun := run_copy0 (P := Try.prog) (W.alloc (.cells (madeCells (Value.agg #[.int .i64 0, .int .i64 0, .int .i64 0, .int .i64 0]).cells (0 * 4)) 34)) 22 22 o.type 34 4 (some ⟨W.heap.size, 0, none⟩) p c Try.underlying22 hi
    obtain rfl : l = [] := List.eq_nil_of_length_eq_zero hn
    unfold Oper.wp
    simp [execOp, ho, resolve, invoke, builtin, hd, hs, hrun, Result.andThen]
    exact hK _ _ (h _ (own_made W 0 (by omega)) hb0 (by simp))
  · obtain ⟨b, o', rfl, hlt, hc⟩ := hr (by rw [flat_len]; omega)
    have hrun := run_copyK (P := Try.prog) (W.alloc (.cells (madeCells (Value.agg #[.int .i64 0, .int .i64 0, .int .i64 0, .int .i64 0]).cells (n * 4)) 34)) 22 22 o.type 34 4 W.heap.size n ⟨b, o', none⟩ c _ 34 (flat l) Try.underlying22 hi (heap_alloc_new W _) (by rw [flat_len, hn]; omega)
      (fun j v hv => by
        have := (hb0.cell (p := ⟨b, o' + j, none⟩) hlt).trans (hc j v hv)
        rw [addP]; exact this) (size_madeCells _ _) (flat_one l)
    unfold Oper.wp
    simp [execOp, ho, resolve, invoke, builtin, hd, hs, hrun, Result.andThen]
    refine hK _ _ (h _ ?_ (hb0.trans (below_setRow' (Nat.le_refl _) _)) (by simp [World.setRow]))
    unfold Own
    rw [hn]
    exact ⟨by rw [flat_len, hn]; omega, .inr ⟨W.heap.size, n, _, rfl, Nat.le_refl _, setRow_heap _ _ _ _ _ _ (heap_alloc_new W _), Nat.le_refl _, by simp only [maxLen]; omega, by rw [List.size_toArray, flat_len, hn]; omega, List.take_of_length_le (by simp [flat_len, hn]; omega)⟩⟩
/-- Numbers are copied into a slice just made. -/
theorem copy_intsR {ops : Array Oper} {rest : List Oper} {o : Oper} {a : Act} {Q : Exit → Act → World → Prop} (hgd : o.guard = none) (d s : Operand) (ho : o.op = .call { callee := .builtin .copy, args := #[d, s], argTypes := #[25, 25] })
    {W : World} {g n c : Nat} {p : Option Addr} {l : List Int} (hg : W.heap.size = g) (hd : a.eval d = .slice (some ⟨g, 0, none⟩) n n) (hs : a.eval s = .slice p n c) (hn : l.length = n) (hr : Rd W p (ints l)) (hnm : n ≤ 1000000000)
    (h : ∀ w', OwnI w' g (.slice (some ⟨g, 0, none⟩) n n) l → Below g W w' → g < w'.heap.size → wpList Try.prog ops Q rest (a.put o.dst (goInt n)) w') :
    wpList Try.prog ops Q (o :: rest) a (W.alloc (.cells (madeCells #[Value.int .i64 0] n) 3)) := by
  subst hg
  have hi : ((Try.prog).info? 3).map (·.size) = some 1 := by kernel_rfl
  have hb0 : Below W.heap.size W (W.alloc (.cells (madeCells #[Value.int .i64 0] n) 3)) := (Below.refl _ _).alloc (Nat.le_refl _) _
  refine wpList_plain hgd fun K hK => ?_
  by_cases h0 : n = 0
  · subst h0
    have hrun := run_copy0 (P := Try.prog) (W.alloc (.cells (madeCells #[Value.int .i64 0] 0) 3)) 25 25 o.type 3 1 (some ⟨W.heap.size, 0, none⟩) p c Try.underlying25 hi
    obtain rfl : l = [] := List.eq_nil_of_length_eq_zero hn
    unfold Oper.wp
    simp [execOp, ho, resolve, invoke, builtin, hd, hs, hrun, Result.andThen]
    exact hK _ _ (h _ (own_madeI W 0 (by omega)) hb0 (by simp))
  · obtain ⟨b, o', rfl, hlt, hc⟩ := hr (by rw [ints_len]; omega)
    have hrun := run_copyK (P := Try.prog) (W.alloc (.cells (madeCells #[Value.int .i64 0] n) 3)) 25 25 o.type 3 1 W.heap.size n ⟨b, o', none⟩ c _ 3 (ints l) Try.underlying25 hi (heap_alloc_new W _) (by rw [ints_len, hn]; omega)
      (fun j v hv => by
        have := (hb0.cell (p := ⟨b, o' + j, none⟩) hlt).trans (hc j v hv)
        rw [addP]; exact this) (by rw [size_madeCells, Nat.mul_one]) (fun v hv => by unfold ints at hv; obtain ⟨x, _, rfl⟩ := List.mem_map.1 hv; rfl)
    unfold Oper.wp
    simp [execOp, ho, resolve, invoke, builtin, hd, hs, hrun, Result.andThen]
    refine hK _ _ (h _ ?_ (hb0.trans (below_setRow' (Nat.le_refl _) _)) (by simp [World.setRow]))
    unfold OwnI
    rw [hn]
    exact ⟨by rw [ints_len, hn]; omega, .inr ⟨W.heap.size, n, _, rfl, Nat.le_refl _, setRow_heap _ _ _ _ _ _ (heap_alloc_new W _), Nat.le_refl _, by simp only [maxLen]; omega, by rw [List.size_toArray, ints_len, hn]; omega, List.take_of_length_le (by simp [ints_len, hn])⟩⟩
end Go.Proofs.Ytjpfjgoebdogjaa.game

/- A Game copied: the program's. -/
namespace Go.Proofs.Ytjpfjgoebdogjaa.game
open Go.RowKit
open cards deal
set_option linter.unusedVariables false

set_option maxRecDepth 100000 in
set_option maxHeartbeats 4000000 in
theorem copy_game (s nx : Int) (l : List Cd) (sc wt : List Int) (p ps pw : Option Addr) (n c ns cs nw cw : Nat) (w : World) (hn : l.length = n) (hs : sc.length = ns) (hw : wt.length = nw) (hl : n ≤ 1000000) (hls : ns ≤ 1000000) (hlw : nw ≤ 1000000) (hr : RdG w p ps pw l sc wt) :
    Calls Try.prog 59 #[gval s nx (.slice p n c) (.slice ps ns cs) (.slice pw nw cw)] w fun e w' => ∃ vl vs vw, e = .returned (gval s nx vl vs vw) ∧ OwnG w' w.heap.size w'.heap.size vl vs vw l sc wt ∧ Below w.heap.size w w' := by
  have HN := Lib.hid hn
  have HS := Lib.hid hs
  have HW := Lib.hid hw
  have HR0 := Lib.hid hr
  have hmk := cards.made n (by omega)
  have hms := madeI ns (by omega)
  have hmw := madeI nw (by omega)
  clear hn hs hw hr
  have K1 : Hid (GBox ((w.alloc (Gv.obj ⟨33, s, nx, .slice p n c, .slice ps ns cs, .slice pw nw cw⟩)).alloc (Gv.obj ⟨33, 0, 0, .slice none 0 0, .slice none 0 0, .slice none 0 0⟩)) w.heap.size ⟨33, s, nx, .slice p n c, .slice ps ns cs, .slice pw nw cw⟩) := Lib.hid ((GBox.newAt rfl rfl).alloc _)
  have K2 : Hid (GBox ((w.alloc (Gv.obj ⟨33, s, nx, .slice p n c, .slice ps ns cs, .slice pw nw cw⟩)).alloc (Gv.obj ⟨33, 0, 0, .slice none 0 0, .slice none 0 0, .slice none 0 0⟩)) (w.heap.size + 1) ⟨33, 0, 0, .slice none 0 0, .slice none 0 0, .slice none 0 0⟩) := Lib.hid (GBox.newAt (by simp) rfl)
  have HB : Hid (Below w.heap.size w ((w.alloc (Gv.obj ⟨33, s, nx, .slice p n c, .slice ps ns cs, .slice pw nw cw⟩)).alloc (Gv.obj ⟨33, 0, 0, .slice none 0 0, .slice none 0 0, .slice none 0 0⟩))) := Lib.hid (((Below.refl _ _).alloc (Nat.le_refl _) _).alloc (by simp) _)
  go_enter Try.func59, Try.ntmps59
  go_upto_region 1 with fail
  generalize ((w.alloc (Gv.obj ⟨33, s, nx, .slice p n c, .slice ps ns cs, .slice pw nw cw⟩)).alloc (Gv.obj ⟨33, 0, 0, .slice none 0 0, .slice none 0 0, .slice none 0 0⟩)) = W0 at K1 K2 HB ⊢
  have HZ0 := Lib.hid (show w.heap.size + 1 + 1 ≤ W0.heap.size from K2.out.lt)
  obtain ⟨g0, hg0⟩ : ∃ g0, W0.heap.size = g0 := ⟨_, rfl⟩
  have HG0 := Lib.hid hg0
  obtain ⟨k1a, k1b, k1c, k1d, k1e⟩ := K1.out.cell
  have k1z := K1.out.lt
  have k1y : w.heap.size < g0 := by omega
  have HR := Lib.hid (RdG.below HR0.out HB.out)
  go_upto_region 2 with fail
  try rw [hg0]
  go_upto_region 3 with (refine copy_cards rfl (.tmp 11) (.tmp 14) rfl hg0 rfl rfl HN.out HR.out.a (by omega) ?_; intro w1 hO1 hB1 hz1; have HO1 := Lib.hid hO1; have HX1 := Lib.hid hB1; have HZ1 := Lib.hid hz1; clear hO1 hB1 hz1 k1a k1b k1c k1d k1e; have k1f := (K1.out.under (by omega) HX1.out).cell; obtain ⟨k1a, k1b, k1c, k1d, k1e⟩ := k1f)
  clear hg0 k1z k1y
  have hx0 := HG0.out
  have K11 := Lib.hid (K1.out.under (show w.heap.size < g0 by have := HZ0.out; omega) HX1.out)
  have K21 := Lib.hid (K2.out.under (show w.heap.size + 1 < g0 by have := HZ0.out; omega) HX1.out)
  have HB1 := Lib.hid (HB.out.trans (HX1.out.mono (show w.heap.size ≤ g0 by have := HZ0.out; omega)))
  have HR1 := Lib.hid (RdG.below HR0.out HB1.out)
  clear K1 K2 HR HB
  obtain ⟨g1, hg1⟩ : ∃ g1, w1.heap.size = g1 := ⟨_, rfl⟩
  have HG1 := Lib.hid hg1
  have k1z := K11.out.lt
  have k1y : w.heap.size < g1 := by omega
  go_upto_region 4 with fail
  try rw [hg1]
  go_upto_region 5 with (refine copy_intsR rfl (.tmp 20) (.tmp 22) rfl hg1 rfl rfl HS.out HR1.out.b (by omega) ?_; intro w2 hO2 hB2 hz2; have HO2 := Lib.hid hO2; have HX2 := Lib.hid hB2; have HZ2 := Lib.hid hz2; clear hO2 hB2 hz2 k1a k1b k1c k1d k1e; have k1f := (K11.out.under (by have := HZ0.out; have := HZ1.out; have := HG1.out; omega) HX2.out).cell; obtain ⟨k1a, k1b, k1c, k1d, k1e⟩ := k1f)
  clear hg1 hx0 k1z k1y
  have K12 := Lib.hid (K11.out.under (show w.heap.size < g1 by have := HZ0.out; have := HZ1.out; have := HG1.out; have := HG0.out; omega) HX2.out)
  have K22 := Lib.hid (K21.out.under (show w.heap.size + 1 < g1 by have := HZ0.out; have := HZ1.out; have := HG1.out; have := HG0.out; omega) HX2.out)
  have HB2 := Lib.hid (HB1.out.trans (HX2.out.mono (show w.heap.size ≤ g1 by have := HZ0.out; have := HZ1.out; have := HG1.out; have := HG0.out; omega)))
  have HR2 := Lib.hid (RdG.below HR0.out HB2.out)
  clear K11 K21 HR1 HB1
  obtain ⟨g2, hg2⟩ : ∃ g2, w2.heap.size = g2 := ⟨_, rfl⟩
  have HG2 := Lib.hid hg2
  have k1z := K12.out.lt
  have k1y : w.heap.size < g2 := by omega
  go_upto_region 6 with fail
  try rw [hg2]
  go_upto_region 7 with (refine copy_intsR rfl (.tmp 28) (.tmp 30) rfl hg2 rfl rfl HW.out HR2.out.c (by omega) ?_; intro w3 hO3 hB3 hz3; have HO3 := Lib.hid hO3; have HX3 := Lib.hid hB3; have HZ3 := Lib.hid hz3; clear hO3 hB3 hz3 k1a k1b k1c k1d k1e; have k1f := (K12.out.under (by have := HZ0.out; have := HZ1.out; have := HG1.out; have := HZ2.out; have := HG2.out; have := HG0.out; omega) HX3.out).cell; obtain ⟨k1a, k1b, k1c, k1d, k1e⟩ := k1f)
  clear hg2 k1z k1y
  have z0 := HZ0.out
  have z1 := HZ1.out
  have z2 := HZ2.out
  have z3 := HZ3.out
  have e0 := HG0.out
  have e1 := HG1.out
  have e2 := HG2.out
  have K23 := Lib.hid (K22.out.under (show w.heap.size + 1 < g2 by omega) HX3.out)
  have HB3 := Lib.hid (HB2.out.trans (HX3.out.mono (show w.heap.size ≤ g2 by omega)))
  have HG : Hid (OwnG w3 (w.heap.size + 2) w3.heap.size (.slice (some ⟨g0, 0, none⟩) n n) (.slice (some ⟨g1, 0, none⟩) ns ns) (.slice (some ⟨g2, 0, none⟩) nw nw) l sc wt) := Lib.hid (OwnG.three (Own.under (Own.under HO1.out (fun g e => by have e' : some g0 = some g := e; injection e' with e'; omega) HX2.out) (fun g e => by have e' : some g0 = some g := e; injection e' with e'; omega) HX3.out)
    (OwnI.under HO2.out (fun g e => by have e' : some g1 = some g := e; injection e' with e'; omega) HX3.out) HO3.out (b1 := g1) (b2 := g2) (b3 := w3.heap.size)
    (fun g e => by have e' : some g0 = some g := e; injection e' with e'; omega) (fun g e => by have e' : some g1 = some g := e; injection e' with e'; omega) (fun g e => by have e' : some g2 = some g := e; injection e' with e'; omega)
    (by omega) (by omega) (by omega) ⟨by omega, by omega, by omega⟩ ⟨by have := HX3.out.size; omega, by omega, Nat.le_refl _⟩)
  have k2f := K23.out.frozen
  have k2z := K23.out.lt
  obtain ⟨k2a, k2b, k2c, k2d, k2e⟩ := K23.out.cell
  clear z0 z1 z2 z3 e0 e1 e2
  have HB := Lib.hid HB3.out
  go_wp2_with fail
  try simp only [Exit.inBlock, Exit.then]
  refine bodyPost_ret (res_game Try.results59 rfl (K23.out.set_ _ _ _ _ _)) rfl ?_
  have HGf := (((((HG.out.far (g := w.heap.size + 1) (by omega) 0 (.int .i64 s)).far (g := w.heap.size + 1) (by omega) 1 (.int .i64 nx)).far (g := w.heap.size + 1) (by omega) 2 (.slice (some ⟨g0, 0, none⟩) n n)).far (g := w.heap.size + 1) (by omega) 3 (.slice (some ⟨g1, 0, none⟩) ns ns)).far (g := w.heap.size + 1) (by omega) 4 (.slice (some ⟨g2, 0, none⟩) nw nw))
  exact ⟨_, _, _, rfl, (HGf.base (show w.heap.size ≤ w.heap.size + 2 by omega)).top (by simp [World.setCell]), by repeat (first | with_reducible exact Below.refl _ _ | with_reducible exact HB.out | with_reducible apply Below.drew | with_reducible apply bdN | with_reducible refine Below.alloc ?_ (by first | exact Nat.le_refl _ | with_reducible exact HB.out.size | omega | (simp; done) | (simp; omega) | (have := HB.out.size; simp at *; omega)) _ | with_reducible refine Below.setCell ?_ (by first | exact Nat.le_refl _ | with_reducible exact HB.out.size | omega | (simp; done) | (simp; omega) | (have := HB.out.size; simp at *; omega)) _)⟩
end Go.Proofs.Ytjpfjgoebdogjaa.game

/- The tally behind a tally; a row of numbers copied by the model. -/
namespace Go.Proofs.Ytjpfjgoebdogjaa.game
open Go.RowKit
open cards deal
set_option linter.unusedVariables false

set_option maxRecDepth 100000 in
set_option maxHeartbeats 2000000 in
theorem one_more (x : Int) (w : World) (h : 0 ≤ x ∧ x ≤ 60) :
    Calls Try.prog 83 #[.int .i64 x] w fun e w' => e = .returned (.int .i64 (more x)) ∧ Below w.heap.size w w' := by
  obtain ⟨h0, h1⟩ := h
  have m0 : -100 ≤ x + 1 := by omega
  have m1 : x + 1 ≤ 100 := by omega
  have HM : Hid (more x = if x + 1 < 60 then x + 1 else 60) := Lib.hid rfl
  have hb0 : Hid (Below w.heap.size w w) := Lib.hid (Below.refl _ _)
  by_cases h60 : 60 < x + 1
  · have HV : Hid (more x = 60) := Lib.hid (by rw [HM.out, if_neg (by omega)])
    rw [HV.out]
    go_enter Try.func83, Try.ntmps83
    go_wp2_with fail
    go_ret
    exact ⟨rfl, by repeat (first | with_reducible exact Below.refl _ _ | with_reducible exact HB.out | with_reducible apply Below.drew | with_reducible apply bdN | with_reducible refine Below.alloc ?_ (by first | exact Nat.le_refl _ | with_reducible exact HB.out.size | omega | (simp; done) | (simp; omega) | (have := HB.out.size; simp at *; omega)) _)⟩
  · have HV : Hid (more x = x + 1) := Lib.hid (by rw [HM.out]; split <;> omega)
    rw [HV.out]
    have h61 : x + 1 ≤ 60 := by omega
    go_enter Try.func83, Try.ntmps83
    go_wp2_with fail
    go_ret
    exact ⟨rfl, by repeat (first | with_reducible exact Below.refl _ _ | with_reducible exact HB.out | with_reducible apply Below.drew | with_reducible apply bdN | with_reducible refine Below.alloc ?_ (by first | exact Nat.le_refl _ | with_reducible exact HB.out.size | omega | (simp; done) | (simp; omega) | (have := HB.out.size; simp at *; omega)) _)⟩
theorem ints_oneJ : ∀ (l : List Int), ∀ u ∈ ints l, u.oneCell' = true := fun l u h => by
  obtain ⟨x, _, rfl⟩ := List.mem_map.1 h
  rfl
set_option maxRecDepth 100000 in
/-- All numbers of another slice are appended. -/
theorem append_intsJ {ops : Array Oper} {rest : List Oper} {o : Oper} {a : Act} {Q : Exit → Act → World → Prop} (hgd : o.guard = none) (s x : Operand)
    (ho : o.op = .call { callee := .builtin .append, args := #[s, x], argTypes := #[25, 25] }) (B : Nat) (v : Value) (l l2 : List Int) (g q m c : Nat) (W : World)
    (hs : a.eval s = v) (hx : a.eval x = .slice (some ⟨g, q, none⟩) m c) (hO : OwnI W B v l) (hm : l2.length = m) (hR : Rd W (some ⟨g, q, none⟩) (ints l2)) (hl : l.length + m ≤ 1000000000) (hB : B ≤ W.heap.size)
    (h : ∀ v' w', OwnI w' B v' (l ++ l2) → (v ≠ .slice none 0 0 → v' ≠ .slice none 0 0) → Below B W w' → wpList Try.prog ops Q rest (a.put o.dst v') w') : wpList Try.prog ops Q (o :: rest) a W := by
  obtain ⟨i, hi, hz, hsz, hb⟩ := info_parts int_info
  refine wpList_append_own (P := Try.prog) W hgd s x 25 ho B 3 i (.int .i64 0) 1 8 Try.underlying25 hi hz hsz hb rfl (by decide) v l.length (ints l) hs hO ⟨g, q, none⟩ m c (ints l2) hx (by rw [ints_len, hm]; omega) ?_ (ints_oneJ l2) (by simp only [maxLen]; omega) (by omega) hB ?_
  · intro j u hu
    obtain ⟨b, o, e, _, hc⟩ := hR (Nat.lt_of_le_of_lt (Nat.zero_le _) (List.getElem?_eq_some_iff.1 hu).1)
    injection e with e
    injection e with e1 e2
    subst e1; subst e2
    rw [addP]; exact hc j u hu
  · intro v' w' h1 h2 h3
    refine h v' w' ?_ (fun hn e => hn (h3.1 e).1) ((Below.refl _ _).grown h2 hB (fun k hk => (World.ownsRow.lt hO k hk).1))
    unfold OwnI
    rw [List.length_append, hm]
    have e : ints (l ++ l2) = ints l ++ ints l2 := by simp [ints]
    rw [e]; exact h1
set_option maxRecDepth 100000 in
set_option maxHeartbeats 2000000 in
theorem l1_own (l : List Int) (b q n cp : Nat) (w : World) (hn : l.length = n) (hl : n ≤ 1000000) (hr : Rd w (some ⟨b, q, none⟩) (ints l)) :
    Calls Try.prog 40 #[.slice (some ⟨b, q, none⟩) n cp] w fun e w' => ∃ u, e = .returned u ∧ OwnI w' w.heap.size u l ∧ Below w.heap.size w w' := by
  have HN := Lib.hid hn
  have HR := Lib.hid hr
  have HO := Lib.hid (OwnI.empty w w.heap.size (Nat.le_refl _))
  have HB0 : Hid (Below w.heap.size w (w.alloc (.cells #[] 3))) := Lib.hid ((Below.refl _ _).alloc (Nat.le_refl _) _)
  clear hn hr
  go_enter Try.func40, Try.ntmps40
  go_wp2_with (at_builtin; refine append_intsJ rfl (.tmp 3) (.tmp 4) rfl w.heap.size (.slice (some ⟨w.heap.size, 0, none⟩) 0 0) [] l b q n cp _ rfl rfl HO.out HN.out (HR.out.alloc _) (by simp; omega) HB0.out.size ?_; intro v1 w1 hO1 hN1 hB1)
  go_ret
  exact ⟨_, rfl, hO1, HB0.out.trans hB1⟩
/-- The Deal's cards are others now, in memory made since. -/
theorem OwnG.newL {w w1 : World} {B C : Nat} {vl vs vw u : Value} {l l' : List Cd} {sc wr : List Int} (h : OwnG w B C vl vs vw l sc wr) (b : Below w.heap.size w w1) (hu : Own w1 w.heap.size u l') (hB : B ≤ C) (hC : C ≤ w.heap.size) : OwnG w1 B w1.heap.size u vs vw l' sc wr := by
  have h' := h.below b
  have hs := b.size
  exact ⟨hu.base (Nat.le_trans hB hC), h'.o2, h'.o3, fun g e1 e2 => by have := (hu.span g e1).1; have := h.c2 g e2; omega, fun g e1 e2 => by have := (hu.span g e1).1; have := h.c3 g e2; omega, h'.a23, fun g e => (hu.span g e).2, fun g e => Nat.lt_of_lt_of_le (h.c2 g e) (Nat.le_trans hC hs), fun g e => Nat.lt_of_lt_of_le (h.c3 g e) (Nat.le_trans hC hs)⟩
end Go.Proofs.Ytjpfjgoebdogjaa.game

/- The region of a law that keeps a Game that a function returns; marks of a Game, block by block. -/
namespace Go.Proofs.Ytjpfjgoebdogjaa.game
open Go.RowKit
open cards deal reg
set_option linter.unusedVariables false

abbrev zeroG : Gv := ⟨33, 0, 0, .slice none 0 0, .slice none 0 0, .slice none 0 0⟩
/-- A block of another type is no row of the call's own. -/
theorem row_apart {w : World} {B : Nat} {T : TypeId} {k n : Nat} {v : Value} {xs : List Value} (h : w.ownsRow B T k v n xs) {g : Nat} {cs : Array Value} {t : TypeId} {fr : Nat × Nat} (hb : w.heap[g]? = some (.cells cs t fr)) (hne : T ≠ t) : ∀ q, v.ownBlock = some q → q ≠ g := by
  rintro q e rfl
  obtain ⟨_, ⟨rfl, _⟩ | ⟨g', cap, cur, rfl, _, hg, _⟩⟩ := h
  · cases e
  · have : q = g' := by injection e with e; exact e.symm
    subst this
    rw [hg] at hb
    injection hb with hb
    injection hb with _ h2 _
    exact absurd h2 hne
/-- A block that holds a Game is none of those that a Game of the call's own lies in. -/
def OffG (g : Nat) (vl vs vw : Value) : Prop := (∀ q, vl.ownBlock = some q → q ≠ g) ∧ (∀ q, vs.ownBlock = some q → q ≠ g) ∧ (∀ q, vw.ownBlock = some q → q ≠ g)
theorem offG {w : World} {B C g : Nat} {vl vs vw : Value} {l : List Cd} {sc wr : List Int} (h : OwnG w B C vl vs vw l sc wr) {x : Gv} (hb : GBox w g x) (ht : x.t = 33) : OffG g vl vs vw := by
  obtain ⟨t, s, n, v, u, q⟩ := x
  simp only at ht
  subst ht
  exact ⟨row_apart (t := 33) h.o1 hb (by decide), row_apart (t := 33) h.o2 hb (by decide), row_apart (t := 33) h.o3 hb (by decide)⟩
theorem OwnG.off {w w1 : World} {B C g : Nat} {vl vs vw : Value} {l : List Cd} {sc wr : List Int} (h : OwnG w B C vl vs vw l sc wr) (hg : w.grownBy w1 (some g)) (ho : OffG g vl vs vw) : OwnG w1 B C vl vs vw l sc wr :=
  ⟨World.ownsRow.kept h.o1 hg (by
      cases hv : vl.ownBlock with
      | none => exact .inl rfl
      | some k => exact .inr (fun e => ho.1 k hv (by injection e))),
    World.ownsRow.kept h.o2 hg (by
      cases hv : vs.ownBlock with
      | none => exact .inl rfl
      | some k => exact .inr (fun e => ho.2.1 k hv (by injection e))),
    World.ownsRow.kept h.o3 hg (by
      cases hv : vw.ownBlock with
      | none => exact .inl rfl
      | some k => exact .inr (fun e => ho.2.2 k hv (by injection e))), h.a12, h.a13, h.a23, h.c1, h.c2, h.c3⟩
section
variable {ops : Array Oper} {Q : Exit → Act → World → Prop}
/-- The result is a Game. -/
theorem region_game {id : Nat} {a : Act} {W : World} (r : List (Bool × Nat)) (i0 s d0 : Nat) (ts : List (Nat × Tmp × Tmp)) (oa os : Oper) (t : Tmp)
    (hok : chainOk .any ops oa i0 s ts r (Array.replicate ops.size false) = true) (hlen : ops.size = r.length + ts.length + 1 + 1) (has : assigns ops ts = true) (hsel : Region.noSelect ops = true)
    (ha0 : ops[i0]? = some oa) (hga : oa.guard = none) (hd : oa.dst = some d0) (hoa : oa.op = .alloc 33)
    (hs0 : ops[s]? = some os) (hgs : os.guard = none) (hds : os.dst = none) (hos : os.op = .store 33 (.tmp d0) (.tmp t)) (hne : t ≠ d0) (hsz : d0 < a.tmps.size)
    (h : chainA Try.prog ops (BI W) W.heap.size zeroG.obj (fun b I => ∃ (x y : Int) (v u q : Value), b.tmps.size = a.tmps.size ∧ v.oneCell' = true ∧ u.oneCell' = true ∧ q.oneCell' = true ∧ b.eval (.tmp t) = gval x y v u q ∧ ∀ w w' g, I w → W.heap.size ≤ g → GBox w g zeroG → w.grownBy w' (some g) → GBox w' g ⟨33, x, y, v, u, q⟩ → ∃ a', runsTo ts (b.put (some d0) (ptr g)) a' ∧ Q .normal a' w') r a (BI W)) :
    (Code.region id ops true).wp Try.prog Q a W := by
  refine region_alloc r i0 s d0 ts oa os zeroG.obj [] W.heap.size (BI W) (BI W) 33 (.tmp d0) (.tmp t) (by kernel_rfl) hok hlen has hsel ha0 hga hd ?_ hs0 hgs hds hos (clo_BI W _) (BI.start W) ?_
  · intro a w
    unfold execOp
    rw [hoa]
    kernel_rfl
  · refine chainA_mono ?_ r a _ (fun _ h => h) h
    intro b I hIS ⟨x, y, v, u, q, hsb, hv, hu, hq, hm, hk⟩ w g hI0 hg hb
    have hI := hIS w hI0
    have hB : GBox w g zeroG := hb
    have hw : BI W (w.setCells g 0 [.int .i64 x, .int .i64 y, v, u, q]) := Below.grown hI (grown_setsV g _ _ _) hI.size (fun k hk => by injection hk with hk; omega)
    refine ⟨#[.int .i64 x, .int .i64 y, v, u, q], ?_, ?_, ?_, by kernel_rfl, by (rw [Array.all_eq_true_iff_forall_mem]; intro z hz; simp at hz; rcases hz with rfl | rfl | rfl | rfl | rfl; rfl; rfl; exact hv; exact hu; exact hq), hw, hk w _ g hI0 hg hb (grown_setsV g _ _ _) (gbox_sets hB x y v u q)⟩
    · show (b.tmps.setIfInBounds d0 (ptr g)).getD d0 undef = ptr g
      simp [Array.getElem?_setIfInBounds, hsb, hsz]
    · rw [Act.eval_put (by intro d hd he; cases hd; cases he; exact hne rfl)]; exact hm
    · intro j hj
      have hj : j < 5 := hj
      refine ⟨?_, hB.frozen _⟩
      rw [Nat.zero_add, cell_of_row w g _ _ _ _ hB]
      rcases (show j = 0 ∨ j = 1 ∨ j = 2 ∨ j = 3 ∨ j = 4 by omega) with rfl | rfl | rfl | rfl | rfl <;> rfl
end
/-- All but the blocks of a Game of the call's own is as it was. -/
def OutV (vl vs vw : Value) (w w1 : World) : Prop := ∀ k, k < w.heap.size → (∀ q, vl.ownBlock = some q → q ≠ k) → (∀ q, vs.ownBlock = some q → q ≠ k) → (∀ q, vw.ownBlock = some q → q ≠ k) → w1.heap[k]? = w.heap[k]?
theorem GBox.outV {vl vs vw : Value} {w w1 : World} {g : Nat} {x : Gv} (h : GBox w g x) (o : OutV vl vs vw w w1) (hg : OffG g vl vs vw) : GBox w1 g x := (o g h.lt hg.1 hg.2.1 hg.2.2).trans h
set_option maxRecDepth 100000 in
set_option maxHeartbeats 2000000 in
theorem mark_gameX (s nx : Int) (l : List Cd) (sc wr : List Int) (vl vs vw : Value) (B C k0 n ns nw : Nat) (w : World) (hn : l.length = n) (hs : sc.length = ns) (hw : wr.length = nw) (hl : k0 + 4 * n + ns + nw ≤ 1000000000) (hC : C ≤ w.heap.size) (hB : B ≤ C) (ho : OwnG w B C vl vs vw l sc wr) :
    Calls Try.prog 15 #[gval s nx vl vs vw, .int .i64 k0] w fun e w' => e = .returned (.int .i64 (k0 + 4 * n + ns + nw : Nat)) ∧ OwnG w' B C vl vs vw (marked k0 n) (markedI (k0 + 4 * n) ns) (markedI (k0 + 4 * n + ns) nw) ∧ (Out B C w w' ∧ OutV vl vs vw w w') := by
  obtain ⟨p, c, ps, cs, pw, cw, rfl, rfl, rfl, _⟩ := ho.form
  rw [hn, hs, hw] at ho ⊢
  have HN := Lib.hid hn
  have HS := Lib.hid hs
  have HW := Lib.hid hw
  have HO := Lib.hid (ho.alloc (Gv.obj ⟨33, s, nx, .slice p n c, .slice ps ns cs, .slice pw nw cw⟩))
  have HB := Lib.hid (Out.of_below (a := B) (b := C) ((Below.refl w.heap.size w).alloc (Nat.le_refl _) (Gv.obj ⟨33, s, nx, .slice p n c, .slice ps ns cs, .slice pw nw cw⟩)))
  have K1 : Hid (GBox (w.alloc (Gv.obj ⟨33, s, nx, .slice p n c, .slice ps ns cs, .slice pw nw cw⟩)) w.heap.size ⟨33, s, nx, .slice p n c, .slice ps ns cs, .slice pw nw cw⟩) := Lib.hid (GBox.newAt rfl rfl)
  have HZ : Hid (w.heap.size ≤ (w.alloc (Gv.obj ⟨33, s, nx, .slice p n c, .slice ps ns cs, .slice pw nw cw⟩)).heap.size) := Lib.hid (by simp)
  obtain ⟨k1, hk1⟩ : ∃ k1, k0 + 4 * n = k1 := ⟨_, rfl⟩
  obtain ⟨k2, hk2⟩ : ∃ k2, k1 + ns = k2 := ⟨_, rfl⟩
  obtain ⟨k3, hk3⟩ : ∃ k3, k2 + nw = k3 := ⟨_, rfl⟩
  have HM1 := Lib.hid (fun w => mark_deal s nx l (.slice p n c) B k0 n w HN.out (by omega))
  have HM2 := Lib.hid (fun w => mark_ints sc (.slice ps ns cs) B k1 ns w HS.out (by omega))
  have HM3 := Lib.hid (fun w => mark_ints wr (.slice pw nw cw) B k2 nw w HW.out (by omega))
  rw [hk1] at HM1
  rw [hk2] at HM2
  rw [hk3] at HM3
  rw [hk1, hk2, hk3]
  have HV0 : Hid (OutV (.slice p n c) (.slice ps ns cs) (.slice pw nw cw) w (w.alloc (Gv.obj ⟨33, s, nx, .slice p n c, .slice ps ns cs, .slice pw nw cw⟩))) := Lib.hid (fun k hk _ _ _ => Below.heap_alloc w _ k hk)
  clear hn hs hw ho hk1 hk2 hk3 hl
  go_enter Try.func15, Try.ntmps15
  go_upto_region 1 with fail
  generalize (w.alloc (Gv.obj ⟨33, s, nx, .slice p n c, .slice ps ns cs, .slice pw nw cw⟩)) = W0 at HO HB K1 HZ HV0 ⊢
  obtain ⟨k1a, k1b, k1c, k1d, k1e⟩ := K1.out.cell
  have k1z := K1.out.lt
  go_wp2_with fail
  refine (HM1.out _ (by have := HZ.out; omega) HO.out.o1).mono ?_
  rintro e w1 ⟨rfl, o1, g1⟩
  have q1 : Out B C W0 w1 := Out.grown g1 (fun g e => ⟨(HO.out.o1.span g e).1, HO.out.c1 g e⟩)
  have HB1 := Lib.hid (HB.out.trans q1)
  have K11 := Lib.hid (GBox.out K1.out q1 (.inr hC))
  have HO1 : Hid (OwnG w1 B C (.slice p n c) (.slice ps ns cs) (.slice pw nw cw) (marked k0 n) sc wr) := Lib.hid ⟨o1, OwnI.past HO.out.o2 g1 HO.out.a12, OwnI.past HO.out.o3 g1 HO.out.a13, HO.out.a12, HO.out.a13, HO.out.a23, HO.out.c1, HO.out.c2, HO.out.c3⟩
  have HZ1 := Lib.hid (Nat.le_trans HZ.out g1.size)
  have HV1 : Hid (OutV (.slice p n c) (.slice ps ns cs) (.slice pw nw cw) w w1) := Lib.hid (fun k hk h1 h2 h3 => (g1.block k (Nat.lt_of_lt_of_le hk HZ.out) (fun e => h1 k e.symm rfl)).trans (HV0.out k hk h1 h2 h3))
  clear o1 g1 q1 k1a k1b k1c k1d k1e k1z
  obtain ⟨k1a, k1b, k1c, k1d, k1e⟩ := K11.out.cell
  have k1z := K11.out.lt
  go_wp2_with fail
  refine (HM2.out _ (by have := HZ1.out; omega) HO1.out.o2).mono ?_
  rintro e w2 ⟨rfl, o2, g2⟩
  have q2 : Out B C w1 w2 := Out.grown g2 (fun g e => ⟨(HO1.out.o2.span g e).1, HO1.out.c2 g e⟩)
  have HB2 := Lib.hid (HB1.out.trans q2)
  have K12 := Lib.hid (GBox.out K11.out q2 (.inr hC))
  have HO2 : Hid (OwnG w2 B C (.slice p n c) (.slice ps ns cs) (.slice pw nw cw) (marked k0 n) (markedI k1 ns) wr) := Lib.hid ⟨Own.past HO1.out.o1 g2 HO1.out.a12.symm, o2, OwnI.past HO1.out.o3 g2 HO1.out.a23, HO1.out.a12, HO1.out.a13, HO1.out.a23, HO1.out.c1, HO1.out.c2, HO1.out.c3⟩
  have HZ2 := Lib.hid (Nat.le_trans HZ1.out g2.size)
  have HV2 : Hid (OutV (.slice p n c) (.slice ps ns cs) (.slice pw nw cw) w w2) := Lib.hid (fun k hk h1 h2 h3 => (g2.block k (Nat.lt_of_lt_of_le hk HZ1.out) (fun e => h2 k e.symm rfl)).trans (HV1.out k hk h1 h2 h3))
  clear o2 g2 q2 k1a k1b k1c k1d k1e k1z
  obtain ⟨k1a, k1b, k1c, k1d, k1e⟩ := K12.out.cell
  have k1z := K12.out.lt
  go_wp2_with fail
  refine (HM3.out _ (by have := HZ2.out; omega) HO2.out.o3).mono ?_
  rintro e w3 ⟨rfl, o3, g3⟩
  have q3 : Out B C w2 w3 := Out.grown g3 (fun g e => ⟨(HO2.out.o3.span g e).1, HO2.out.c3 g e⟩)
  have HB3 := Lib.hid (HB2.out.trans q3)
  have HO3 : Hid (OwnG w3 B C (.slice p n c) (.slice ps ns cs) (.slice pw nw cw) (marked k0 n) (markedI k1 ns) (markedI k2 nw)) := Lib.hid ⟨Own.past HO2.out.o1 g3 HO2.out.a13.symm, OwnI.past HO2.out.o2 g3 HO2.out.a23.symm, o3, HO2.out.a12, HO2.out.a13, HO2.out.a23, HO2.out.c1, HO2.out.c2, HO2.out.c3⟩
  have HV3 : Hid (OutV (.slice p n c) (.slice ps ns cs) (.slice pw nw cw) w w3) := Lib.hid (fun k hk h1 h2 h3 => (g3.block k (Nat.lt_of_lt_of_le hk HZ2.out) (fun e => h3 k e.symm rfl)).trans (HV2.out k hk h1 h2 h3))
  clear o3 g3 q3 k1a k1b k1c k1d k1e k1z
  go_wp2_with fail
  go_ret
  exact ⟨rfl, HO3.out, HB3.out, HV3.out⟩

end Go.Proofs.Ytjpfjgoebdogjaa.game

/- Is a Game valid? The program and the model alike. -/

namespace Go.Proofs.Ytjpfjgoebdogjaa.game
open Go.RowKit
open cards deal
set_option linter.unusedVariables false

/-- The place of the first line of which P is true, or -1. -/
def posP {α : Type} (P : α → Bool) (l : List α) : Int := if l.any P = true then (((l.takeWhile fun x => !P x).length : Nat) : Int) else -1
theorem posP_at {α : Type} {P : α → Bool} : ∀ {l : List α} {k : Nat} {x : α}, l[k]? = some x → P x = true → (∀ (j : Nat) y, j < k → l[j]? = some y → P y = false) → (k : Int) = posP P l
  | [], k, x, h, _, _ => by simp at h
  | y :: r, 0, x, h, hp, _ => by
    obtain rfl : y = x := by simpa using h
    simp [posP, hp]
  | y :: r, k + 1, x, h, hp, hu => by
    have h0 := hu 0 y (by omega) rfl
    have ih := posP_at (l := r) (k := k) (by simpa using h) hp (fun j z hj hz => hu (j + 1) z (by omega) (by simpa using hz))
    unfold posP at ih ⊢
    have ha : r.any P = true := List.any_eq_true.2 ⟨x, List.mem_of_getElem? (by simpa using h), hp⟩
    rw [if_pos ha] at ih
    rw [if_pos (by simp [ha]), List.takeWhile_cons, if_pos (by simp [h0]), List.length_cons]
    omega
theorem posP_none {α : Type} {P : α → Bool} {l : List α} (hu : ∀ (j : Nat) y, l[j]? = some y → P y = false) : -1 = posP P l := by
  unfold posP
  rw [if_neg]
  intro h
  obtain ⟨x, hx, hp⟩ := List.any_eq_true.1 h
  obtain ⟨k, hk⟩ := List.mem_iff_getElem?.1 hx
  rw [hu k x hk] at hp; cases hp
theorem posP_nn {α : Type} {P : α → Bool} {l : List α} : decide (0 ≤ posP P l) = l.any P := by
  unfold posP
  cases h : l.any P <;> simp
theorem posP_bd {α : Type} (P : α → Bool) (l : List α) : -1 ≤ posP P l ∧ posP P l ≤ l.length := by
  unfold posP
  have := (List.takeWhile_sublist (fun x => !P x) (l := l)).length_le
  split <;> omega

set_option maxHeartbeats 400000 in
theorem odd_fun (x : Int) (w : World) :
    Calls Try.prog 84 #[.int .i64 x] w fun e w' => e = .returned (.bool (!tly1 x)) ∧ Below w.heap.size w w' := by
  go_enter Try.func84, Try.ntmps84
  go_wp2
  all_goals go_ret
  all_goals exact ⟨ret_bool (by unfold tly1; rw [Bool.eq_iff_iff]; simp <;> omega), by repeat (first | with_reducible exact Below.refl _ _ | with_reducible exact HB.out | with_reducible apply Below.drew | with_reducible apply bdN | with_reducible refine Below.alloc ?_ (by first | exact Nat.le_refl _ | with_reducible exact HB.out.size | omega | (simp; done) | (simp; omega) | (have := HB.out.size; simp at *; omega)) _)⟩

set_option maxRecDepth 100000 in
set_option maxHeartbeats 2000000 in
theorem index_odd (l : List Int) (p : Option Addr) (n c : Nat) (w : World) (hn : l.length = n) (hl : n ≤ 1000000000) (hr : Rd w p (ints l)) :
    Calls Try.prog 108 #[.slice p n c, .func (.func 84) #[] #[]] w fun e w' => e = .returned (.int .i64 (posP (fun x => !tly1 x) l)) ∧ Below w.heap.size w w' := by
  have HN := Lib.hid hn
  have HR := Lib.hid hr
  clear hn hr
  go_enter Try.func108, Try.ntmps108
  go_wp2_with fail
  go_loopw [5, 8] (fun _ i wr => ∃ k : Nat, k ≤ n ∧ i = .int .i64 k ∧ Hid (∀ (j : Nat) y, j < k → l[j]? = some y → (!tly1 y) = false) ∧ Hid (Below w.heap.size w wr)) (fun _ i _ => n - (intOf i).toNat)
  case atStart => exact ⟨0, Nat.zero_le _, rfl, Lib.hid (fun j y h => by omega), Lib.hid (Below.refl _ _)⟩
  case round =>
    obtain ⟨k, hk, rfl, HU, HB⟩ := hrel
    by_cases hlt : k < n
    · obtain ⟨b, o, x, rfl, hb, hx, c0⟩ := (HR.out.below HB.out).int (k := k) (by rw [HN.out]; exact hlt)
      have HX := Lib.hid hx
      clear hx
      have m0 : (0 : Int) ≤ (k : Int) := by omega
      have m1 : (k : Int) < (n : Int) := by omega
      go_wp2_with fail
      refine (odd_fun x _).mono ?_
      rintro e w1 ⟨rfl, b⟩
      have Sw1 := Lib.hid b.size
      have HB := Lib.hid (chain0 (w := w) (by repeat (first | with_reducible exact Below.refl _ _ | with_reducible exact HB.out | with_reducible apply Below.drew | with_reducible apply bdN | with_reducible refine Below.alloc ?_ (by first | exact Nat.le_refl _ | with_reducible exact HB.out.size | omega | (simp; done) | (simp; omega) | (have := HB.out.size; simp at *; omega)) _)) b)
      clear b
      clear c0
      cases hs : tly1 x
      · have HP := Lib.hid (show (k : Int) = posP (fun x => !tly1 x) l from posP_at HX.out (by simp [hs]) HU.out)
        go_wp2_with fail
        go_ret
        exact ⟨ret_int HP.out, HB.out⟩
      · have HU1 := Lib.hid (show ∀ (j : Nat) y, j < k + 1 → l[j]? = some y → (!tly1 y) = false from fun j y hj hy => by
          rcases Nat.lt_or_ge j k with h | h
          · exact HU.out j y h hy
          · obtain rfl : j = k := by omega
            have h1 := HX.out; rw [hy] at h1; injection h1 with h1; subst h1; simp [hs])
        go_wp2_with fail
        go_roundw
        case rel => exact ⟨k + 1, by omega, by go_num, HU1, HB⟩
        case measure => simp [intOf]; omega
    · obtain rfl : k = n := by omega
      have HP := Lib.hid (show -1 = posP (fun x => !tly1 x) l from posP_none (fun j y hy => HU.out j y (by have := (List.getElem?_eq_some_iff.1 hy).1; rw [HN.out] at this; exact this) hy))
      go_wp2_with fail
      go_ret
      exact ⟨ret_int HP.out, HB.out⟩
theorem any_tly (l : List Int) : (l.any fun x => !tly1 x) = !tly l := by
  unfold tly
  induction l with
  | nil => rfl
  | cons x r ih => simp [ih]

set_option maxRecDepth 100000 in
set_option maxHeartbeats 2000000 in
theorem contains_odd (l : List Int) (p : Option Addr) (n c : Nat) (w : World) (hn : l.length = n) (hl : n ≤ 1000000000) (hr : Rd w p (ints l)) :
    Calls Try.prog 85 #[.slice p n c, .func (.func 84) #[] #[]] w fun e w' => e = .returned (.bool (!tly l)) ∧ Below w.heap.size w w' := by
  have HI := index_odd l p n c w hn hl hr
  have HP := Lib.hid (show decide (0 ≤ posP (fun x => !tly1 x) l) = !tly l by rw [posP_nn, any_tly])
  obtain ⟨v, hv⟩ : ∃ v, posP (fun x => !tly1 x) l = v := ⟨_, rfl⟩
  obtain ⟨bb, hb⟩ : ∃ bb, (!tly l) = bb := ⟨_, rfl⟩
  rw [hv] at HI
  rw [hv, hb] at HP
  rw [hb]
  have HI := Lib.hid HI
  clear hn hr hv hb
  go_enter Try.func85, Try.ntmps85
  go_wp2_with fail
  refine ((HI.out)).mono ?_
  rintro e w1 ⟨rfl, b⟩
  have Sw1 := Lib.hid b.size
  have HB := Lib.hid (chain0 (w := w) (by repeat (first | with_reducible exact Below.refl _ _ | with_reducible exact HB.out | with_reducible apply Below.drew | with_reducible apply bdN | with_reducible refine Below.alloc ?_ (by first | exact Nat.le_refl _ | with_reducible exact HB.out.size | omega | (simp; done) | (simp; omega) | (have := HB.out.size; simp at *; omega)) _)) b)
  clear b
  go_wp2_with fail
  go_ret
  exact ⟨ret_bool HP.out, HB.out⟩

set_option maxRecDepth 100000 in
set_option maxHeartbeats 2000000 in
theorem are_tallies (l : List Int) (p : Option Addr) (n c k : Nat) (w : World) (hn : l.length = n) (hl : n ≤ 1000000000) (hr : Rd w p (ints l)) :
    Calls Try.prog 66 #[.slice p n c, .int .i64 k] w fun e w' => e = .returned (.bool (decide (n = k) && tly l)) ∧ Below w.heap.size w w' := by
  have HN := Lib.hid hn
  have HR := Lib.hid hr
  clear hn hr
  by_cases hk : n = k
  · subst hk
    have HT : Hid ((decide (n = n) && tly l) = tly l) := Lib.hid (by simp)
    rw [HT.out]
    obtain ⟨q, hq⟩ : ∃ q, tly l = q := ⟨_, rfl⟩
    have HC := Lib.hid (fun w h => contains_odd l p n c w HN.out hl h)
    rw [hq] at HC ⊢
    clear hq
    go_enter Try.func66, Try.ntmps66
    go_wp2_with fail
    refine ((HC.out _ (by repeat (first | with_reducible exact HR.out | with_reducible apply Rd.drewN | with_reducible apply Rd.drew | with_reducible apply Rd.alloc)))).mono ?_
    rintro e w1 ⟨rfl, b⟩
    have Sw1 := Lib.hid b.size
    have HB := Lib.hid (chain0 (w := w) (by repeat (first | with_reducible exact Below.refl _ _ | with_reducible exact HB.out | with_reducible apply Below.drew | with_reducible apply bdN | with_reducible refine Below.alloc ?_ (by first | exact Nat.le_refl _ | with_reducible exact HB.out.size | omega | (simp; done) | (simp; omega) | (have := HB.out.size; simp at *; omega)) _)) b)
    have HR := Lib.hid (Rd.below (by repeat (first | with_reducible exact HR.out | with_reducible apply Rd.drewN | with_reducible apply Rd.drew | with_reducible apply Rd.alloc)) b)
    clear b
    go_wp2_with fail
    go_ret
    exact ⟨ret_bool (by simp), HB.out⟩
  · have HT : Hid ((decide (n = k) && tly l) = false) := Lib.hid (by simp [hk])
    rw [HT.out]
    have hk2 : ((n : Int) == (k : Int)) = false := by simp; omega
    clear hk
    go_enter Try.func66, Try.ntmps66
    go_wp2_with fail
    go_ret
    exact ⟨rfl, by repeat (first | with_reducible exact Below.refl _ _ | with_reducible exact HB.out | with_reducible apply Below.drew | with_reducible apply bdN | with_reducible refine Below.alloc ?_ (by first | exact Nat.le_refl _ | with_reducible exact HB.out.size | omega | (simp; done) | (simp; omega) | (have := HB.out.size; simp at *; omega)) _)⟩

theorem plI_N (n : Nat) : plI (n : Int) = plN n := by unfold plI plN; rw [Bool.eq_iff_iff, decide_eq_true_eq, decide_eq_true_eq]; omega
set_option maxRecDepth 100000 in
set_option maxHeartbeats 4000000 in
theorem is_game (g : Gm) (p ps pw : Option Addr) (n c ns cs nw cw : Nat) (w : World) (hf : FitG n c ns cs nw cw p ps pw g) (hr : RdG w p ps pw g.l g.sc g.wr) :
    Calls Try.prog 41 #[gval g.s g.nx (.slice p n c) (.slice ps ns cs) (.slice pw nw cw)] w fun e w' => e = .returned (.bool g.ok) ∧ Below w.heap.size w w' := by
  have HF := Lib.hid hf
  have HR := Lib.hid hr
  have HP := Lib.hid (fun w => can_play (ns : Int) w)
  have HS := Lib.hid (fun w h => are_tallies g.sc ps ns cs ns w HF.out.hs (by have := HF.out.s1; omega) h)
  have HW := Lib.hid (fun w h => are_tallies g.wr pw nw cw ns w HF.out.hw (by have := HF.out.w1; omega) h)
  have HD := Lib.hid (fun w h => impl_isdeal g.s g.nx g.l p n c w HF.out.hn (by have := HF.out.n1; omega) HF.out.hc h HF.out.wf)
  have HT : Hid (g.ok = (plN ns && ((decide (ns = ns) && tly g.sc) && ((decide (nw = ns) && tly g.wr) && (Dl.mk g.s g.nx g.l).ok)))) := Lib.hid (by
    unfold Gm.ok
    rw [HF.out.hs, HF.out.hw]
    simp [Gm.d, Bool.and_assoc])
  rw [plI_N] at HP
  obtain ⟨b1, hb1⟩ : ∃ b1, plN ns = b1 := ⟨_, rfl⟩
  obtain ⟨b2, hb2⟩ : ∃ b2, (decide (ns = ns) && tly g.sc) = b2 := ⟨_, rfl⟩
  obtain ⟨b3, hb3⟩ : ∃ b3, (decide (nw = ns) && tly g.wr) = b3 := ⟨_, rfl⟩
  obtain ⟨b4, hb4⟩ : ∃ b4, (Dl.mk g.s g.nx g.l).ok = b4 := ⟨_, rfl⟩
  rw [hb1] at HP
  rw [hb2] at HS
  rw [hb3] at HW
  rw [hb4] at HD
  rw [hb1, hb2, hb3, hb4] at HT
  obtain ⟨s, nx, l, sc, wr⟩ := g
  simp only at HR HS HW HD ⊢
  clear hf hr hb1 hb2 hb3 hb4
  cases b1
  · go_enter Try.func41, Try.ntmps41
    go_wp2_with fail
    refine ((HP.out _)).mono ?_
    rintro e w1 ⟨rfl, b⟩
    have Sw1 := Lib.hid b.size
    have HB := Lib.hid (chain0 (w := w) (by repeat (first | with_reducible exact Below.refl _ _ | with_reducible exact HB.out | with_reducible apply Below.drew | with_reducible apply bdN | with_reducible refine Below.alloc ?_ (by first | exact Nat.le_refl _ | with_reducible exact HB.out.size | omega | (simp; done) | (simp; omega) | (have := HB.out.size; simp at *; omega)) _)) b)
    have K1 : Hid (GBox _ (w.heap.size) (⟨33, s, nx, .slice p n c, .slice ps ns cs, .slice pw nw cw⟩)) := Lib.hid (GBox.below (by repeat (first | with_reducible exact K1.out | with_reducible apply GBox.drewN | with_reducible apply GBox.drew | (with_reducible refine GBox.newAt ?_ ?_ <;> first | (simp; done) | rfl) | with_reducible apply GBox.alloc)) b)
    try clear k1a k1b k1c k1d k1e k1z
    have k1z := K1.out.lt
    obtain ⟨k1a, k1b, k1c, k1d, k1e⟩ := K1.out.cell
    clear b
    go_wp2_with fail
    go_ret
    exact ⟨ret_bool HT.out.symm, by repeat (first | with_reducible exact Below.refl _ _ | with_reducible exact HB.out | with_reducible apply Below.drew | with_reducible apply bdN | with_reducible refine Below.alloc ?_ (by first | exact Nat.le_refl _ | with_reducible exact HB.out.size | omega | (simp; done) | (simp; omega) | (have := HB.out.size; simp at *; omega)) _)⟩
  · cases b2
    · go_enter Try.func41, Try.ntmps41
      go_wp2_with fail
      refine ((HP.out _)).mono ?_
      rintro e w1 ⟨rfl, b⟩
      have Sw1 := Lib.hid b.size
      have HB := Lib.hid (chain0 (w := w) (by repeat (first | with_reducible exact Below.refl _ _ | with_reducible exact HB.out | with_reducible apply Below.drew | with_reducible apply bdN | with_reducible refine Below.alloc ?_ (by first | exact Nat.le_refl _ | with_reducible exact HB.out.size | omega | (simp; done) | (simp; omega) | (have := HB.out.size; simp at *; omega)) _)) b)
      have HR := Lib.hid (RdG.below (by repeat (first | with_reducible exact HR.out | with_reducible apply RdG.drewN | with_reducible apply RdG.drew | with_reducible apply RdG.alloc)) b)
      have K1 : Hid (GBox _ (w.heap.size) (⟨33, s, nx, .slice p n c, .slice ps ns cs, .slice pw nw cw⟩)) := Lib.hid (GBox.below (by repeat (first | with_reducible exact K1.out | with_reducible apply GBox.drewN | with_reducible apply GBox.drew | (with_reducible refine GBox.newAt ?_ ?_ <;> first | (simp; done) | rfl) | with_reducible apply GBox.alloc)) b)
      try clear k1a k1b k1c k1d k1e k1z
      have k1z := K1.out.lt
      obtain ⟨k1a, k1b, k1c, k1d, k1e⟩ := K1.out.cell
      clear b
      go_wp2_with fail
      refine ((HS.out _ HR.out.b)).mono ?_
      rintro e w2 ⟨rfl, b⟩
      have Sw2 := Lib.hid b.size
      have HB := Lib.hid (chain0 (w := w) (by repeat (first | with_reducible exact Below.refl _ _ | with_reducible exact HB.out | with_reducible apply Below.drew | with_reducible apply bdN | with_reducible refine Below.alloc ?_ (by first | exact Nat.le_refl _ | with_reducible exact HB.out.size | omega | (simp; done) | (simp; omega) | (have := HB.out.size; simp at *; omega)) _)) b)
      have HR := Lib.hid (RdG.below (by repeat (first | with_reducible exact HR.out | with_reducible apply RdG.drewN | with_reducible apply RdG.drew | with_reducible apply RdG.alloc)) b)
      have K1 : Hid (GBox _ (w.heap.size) (⟨33, s, nx, .slice p n c, .slice ps ns cs, .slice pw nw cw⟩)) := Lib.hid (GBox.below (by repeat (first | with_reducible exact K1.out | with_reducible apply GBox.drewN | with_reducible apply GBox.drew | (with_reducible refine GBox.newAt ?_ ?_ <;> first | (simp; done) | rfl) | with_reducible apply GBox.alloc)) b)
      try clear k1a k1b k1c k1d k1e k1z
      have k1z := K1.out.lt
      obtain ⟨k1a, k1b, k1c, k1d, k1e⟩ := K1.out.cell
      clear b
      go_wp2_with fail
      go_ret
      exact ⟨ret_bool HT.out.symm, by repeat (first | with_reducible exact Below.refl _ _ | with_reducible exact HB.out | with_reducible apply Below.drew | with_reducible apply bdN | with_reducible refine Below.alloc ?_ (by first | exact Nat.le_refl _ | with_reducible exact HB.out.size | omega | (simp; done) | (simp; omega) | (have := HB.out.size; simp at *; omega)) _)⟩
    · cases b3
      · go_enter Try.func41, Try.ntmps41
        go_wp2_with fail
        refine ((HP.out _)).mono ?_
        rintro e w1 ⟨rfl, b⟩
        have Sw1 := Lib.hid b.size
        have HB := Lib.hid (chain0 (w := w) (by repeat (first | with_reducible exact Below.refl _ _ | with_reducible exact HB.out | with_reducible apply Below.drew | with_reducible apply bdN | with_reducible refine Below.alloc ?_ (by first | exact Nat.le_refl _ | with_reducible exact HB.out.size | omega | (simp; done) | (simp; omega) | (have := HB.out.size; simp at *; omega)) _)) b)
        have HR := Lib.hid (RdG.below (by repeat (first | with_reducible exact HR.out | with_reducible apply RdG.drewN | with_reducible apply RdG.drew | with_reducible apply RdG.alloc)) b)
        have K1 : Hid (GBox _ (w.heap.size) (⟨33, s, nx, .slice p n c, .slice ps ns cs, .slice pw nw cw⟩)) := Lib.hid (GBox.below (by repeat (first | with_reducible exact K1.out | with_reducible apply GBox.drewN | with_reducible apply GBox.drew | (with_reducible refine GBox.newAt ?_ ?_ <;> first | (simp; done) | rfl) | with_reducible apply GBox.alloc)) b)
        try clear k1a k1b k1c k1d k1e k1z
        have k1z := K1.out.lt
        obtain ⟨k1a, k1b, k1c, k1d, k1e⟩ := K1.out.cell
        clear b
        go_wp2_with fail
        refine ((HS.out _ HR.out.b)).mono ?_
        rintro e w2 ⟨rfl, b⟩
        have Sw2 := Lib.hid b.size
        have HB := Lib.hid (chain0 (w := w) (by repeat (first | with_reducible exact Below.refl _ _ | with_reducible exact HB.out | with_reducible apply Below.drew | with_reducible apply bdN | with_reducible refine Below.alloc ?_ (by first | exact Nat.le_refl _ | with_reducible exact HB.out.size | omega | (simp; done) | (simp; omega) | (have := HB.out.size; simp at *; omega)) _)) b)
        have HR := Lib.hid (RdG.below (by repeat (first | with_reducible exact HR.out | with_reducible apply RdG.drewN | with_reducible apply RdG.drew | with_reducible apply RdG.alloc)) b)
        have K1 : Hid (GBox _ (w.heap.size) (⟨33, s, nx, .slice p n c, .slice ps ns cs, .slice pw nw cw⟩)) := Lib.hid (GBox.below (by repeat (first | with_reducible exact K1.out | with_reducible apply GBox.drewN | with_reducible apply GBox.drew | (with_reducible refine GBox.newAt ?_ ?_ <;> first | (simp; done) | rfl) | with_reducible apply GBox.alloc)) b)
        try clear k1a k1b k1c k1d k1e k1z
        have k1z := K1.out.lt
        obtain ⟨k1a, k1b, k1c, k1d, k1e⟩ := K1.out.cell
        clear b
        go_wp2_with fail
        refine ((HW.out _ HR.out.c)).mono ?_
        rintro e w3 ⟨rfl, b⟩
        have Sw3 := Lib.hid b.size
        have HB := Lib.hid (chain0 (w := w) (by repeat (first | with_reducible exact Below.refl _ _ | with_reducible exact HB.out | with_reducible apply Below.drew | with_reducible apply bdN | with_reducible refine Below.alloc ?_ (by first | exact Nat.le_refl _ | with_reducible exact HB.out.size | omega | (simp; done) | (simp; omega) | (have := HB.out.size; simp at *; omega)) _)) b)
        have HR := Lib.hid (RdG.below (by repeat (first | with_reducible exact HR.out | with_reducible apply RdG.drewN | with_reducible apply RdG.drew | with_reducible apply RdG.alloc)) b)
        have K1 : Hid (GBox _ (w.heap.size) (⟨33, s, nx, .slice p n c, .slice ps ns cs, .slice pw nw cw⟩)) := Lib.hid (GBox.below (by repeat (first | with_reducible exact K1.out | with_reducible apply GBox.drewN | with_reducible apply GBox.drew | (with_reducible refine GBox.newAt ?_ ?_ <;> first | (simp; done) | rfl) | with_reducible apply GBox.alloc)) b)
        try clear k1a k1b k1c k1d k1e k1z
        have k1z := K1.out.lt
        obtain ⟨k1a, k1b, k1c, k1d, k1e⟩ := K1.out.cell
        clear b
        go_wp2_with fail
        go_ret
        exact ⟨ret_bool HT.out.symm, by repeat (first | with_reducible exact Below.refl _ _ | with_reducible exact HB.out | with_reducible apply Below.drew | with_reducible apply bdN | with_reducible refine Below.alloc ?_ (by first | exact Nat.le_refl _ | with_reducible exact HB.out.size | omega | (simp; done) | (simp; omega) | (have := HB.out.size; simp at *; omega)) _)⟩
      · go_enter Try.func41, Try.ntmps41
        go_wp2_with fail
        refine ((HP.out _)).mono ?_
        rintro e w1 ⟨rfl, b⟩
        have Sw1 := Lib.hid b.size
        have HB := Lib.hid (chain0 (w := w) (by repeat (first | with_reducible exact Below.refl _ _ | with_reducible exact HB.out | with_reducible apply Below.drew | with_reducible apply bdN | with_reducible refine Below.alloc ?_ (by first | exact Nat.le_refl _ | with_reducible exact HB.out.size | omega | (simp; done) | (simp; omega) | (have := HB.out.size; simp at *; omega)) _)) b)
        have HR := Lib.hid (RdG.below (by repeat (first | with_reducible exact HR.out | with_reducible apply RdG.drewN | with_reducible apply RdG.drew | with_reducible apply RdG.alloc)) b)
        have K1 : Hid (GBox _ (w.heap.size) (⟨33, s, nx, .slice p n c, .slice ps ns cs, .slice pw nw cw⟩)) := Lib.hid (GBox.below (by repeat (first | with_reducible exact K1.out | with_reducible apply GBox.drewN | with_reducible apply GBox.drew | (with_reducible refine GBox.newAt ?_ ?_ <;> first | (simp; done) | rfl) | with_reducible apply GBox.alloc)) b)
        try clear k1a k1b k1c k1d k1e k1z
        have k1z := K1.out.lt
        obtain ⟨k1a, k1b, k1c, k1d, k1e⟩ := K1.out.cell
        clear b
        go_wp2_with fail
        refine ((HS.out _ HR.out.b)).mono ?_
        rintro e w2 ⟨rfl, b⟩
        have Sw2 := Lib.hid b.size
        have HB := Lib.hid (chain0 (w := w) (by repeat (first | with_reducible exact Below.refl _ _ | with_reducible exact HB.out | with_reducible apply Below.drew | with_reducible apply bdN | with_reducible refine Below.alloc ?_ (by first | exact Nat.le_refl _ | with_reducible exact HB.out.size | omega | (simp; done) | (simp; omega) | (have := HB.out.size; simp at *; omega)) _)) b)
        have HR := Lib.hid (RdG.below (by repeat (first | with_reducible exact HR.out | with_reducible apply RdG.drewN | with_reducible apply RdG.drew | with_reducible apply RdG.alloc)) b)
        have K1 : Hid (GBox _ (w.heap.size) (⟨33, s, nx, .slice p n c, .slice ps ns cs, .slice pw nw cw⟩)) := Lib.hid (GBox.below (by repeat (first | with_reducible exact K1.out | with_reducible apply GBox.drewN | with_reducible apply GBox.drew | (with_reducible refine GBox.newAt ?_ ?_ <;> first | (simp; done) | rfl) | with_reducible apply GBox.alloc)) b)
        try clear k1a k1b k1c k1d k1e k1z
        have k1z := K1.out.lt
        obtain ⟨k1a, k1b, k1c, k1d, k1e⟩ := K1.out.cell
        clear b
        go_wp2_with fail
        refine ((HW.out _ HR.out.c)).mono ?_
        rintro e w3 ⟨rfl, b⟩
        have Sw3 := Lib.hid b.size
        have HB := Lib.hid (chain0 (w := w) (by repeat (first | with_reducible exact Below.refl _ _ | with_reducible exact HB.out | with_reducible apply Below.drew | with_reducible apply bdN | with_reducible refine Below.alloc ?_ (by first | exact Nat.le_refl _ | with_reducible exact HB.out.size | omega | (simp; done) | (simp; omega) | (have := HB.out.size; simp at *; omega)) _)) b)
        have HR := Lib.hid (RdG.below (by repeat (first | with_reducible exact HR.out | with_reducible apply RdG.drewN | with_reducible apply RdG.drew | with_reducible apply RdG.alloc)) b)
        have K1 : Hid (GBox _ (w.heap.size) (⟨33, s, nx, .slice p n c, .slice ps ns cs, .slice pw nw cw⟩)) := Lib.hid (GBox.below (by repeat (first | with_reducible exact K1.out | with_reducible apply GBox.drewN | with_reducible apply GBox.drew | (with_reducible refine GBox.newAt ?_ ?_ <;> first | (simp; done) | rfl) | with_reducible apply GBox.alloc)) b)
        try clear k1a k1b k1c k1d k1e k1z
        have k1z := K1.out.lt
        obtain ⟨k1a, k1b, k1c, k1d, k1e⟩ := K1.out.cell
        clear b
        go_wp2_with fail
        refine ((HD.out _ HR.out.a)).mono ?_
        rintro e w4 ⟨rfl, b⟩
        have Sw4 := Lib.hid b.size
        have HB := Lib.hid (chain0 (w := w) (by repeat (first | with_reducible exact Below.refl _ _ | with_reducible exact HB.out | with_reducible apply Below.drew | with_reducible apply bdN | with_reducible refine Below.alloc ?_ (by first | exact Nat.le_refl _ | with_reducible exact HB.out.size | omega | (simp; done) | (simp; omega) | (have := HB.out.size; simp at *; omega)) _)) b)
        have HR := Lib.hid (RdG.below (by repeat (first | with_reducible exact HR.out | with_reducible apply RdG.drewN | with_reducible apply RdG.drew | with_reducible apply RdG.alloc)) b)
        have K1 : Hid (GBox _ (w.heap.size) (⟨33, s, nx, .slice p n c, .slice ps ns cs, .slice pw nw cw⟩)) := Lib.hid (GBox.below (by repeat (first | with_reducible exact K1.out | with_reducible apply GBox.drewN | with_reducible apply GBox.drew | (with_reducible refine GBox.newAt ?_ ?_ <;> first | (simp; done) | rfl) | with_reducible apply GBox.alloc)) b)
        try clear k1a k1b k1c k1d k1e k1z
        have k1z := K1.out.lt
        obtain ⟨k1a, k1b, k1c, k1d, k1e⟩ := K1.out.cell
        clear b
        go_wp2_with fail
        go_ret
        exact ⟨ret_bool (by rw [HT.out]; simp), by repeat (first | with_reducible exact Below.refl _ _ | with_reducible exact HB.out | with_reducible apply Below.drew | with_reducible apply bdN | with_reducible refine Below.alloc ?_ (by first | exact Nat.le_refl _ | with_reducible exact HB.out.size | omega | (simp; done) | (simp; omega) | (have := HB.out.size; simp at *; omega)) _)⟩
end Go.Proofs.Ytjpfjgoebdogjaa.game

/- Is a Game valid? The model. -/
namespace Go.Proofs.Ytjpfjgoebdogjaa.game
open Go.RowKit
open cards deal
set_option linter.unusedVariables false

/-- What the model has seen of the tallies so far. -/
def okT (g : Gm) (k : Nat) : Prop := ∀ j, j < k → (∀ x, g.sc[j]? = some x → 0 ≤ x ∧ x ≤ 60) ∧ (∀ x, g.wr[j]? = some x → 0 ≤ x ∧ x ≤ 60)
theorem okT_end {g : Gm} (hd : g.d.okP) (h1 : 1 ≤ g.sc.length) (h4 : g.sc.length ≤ 4) (he : g.wr.length = g.sc.length) (h : okT g g.sc.length) : g.ok = true :=
  Gm.ok_iff.2 ⟨h1, h4, tly_all (fun k x hx => (h k (List.getElem?_eq_some_iff.1 hx).1).1 x hx), he, tly_all (fun k x hx => (h k (by rw [← he]; exact (List.getElem?_eq_some_iff.1 hx).1)).2 x hx), hd⟩

set_option maxRecDepth 100000 in
set_option maxHeartbeats 4000000 in
theorem l8_game (g : Gm) (p ps pw : Option Addr) (n c ns cs nw cw : Nat) (w : World) (hf : FitG n c ns cs nw cw p ps pw g) (hr : RdG w p ps pw g.l g.sc g.wr) :
    Calls Try.prog 27 #[gval g.s g.nx (.slice p n c) (.slice ps ns cs) (.slice pw nw cw)] w fun e w' => e = .returned (.bool g.ok) ∧ Below w.heap.size w w' := by
  have HF := Lib.hid hf
  have HR := Lib.hid hr
  have HR0 := Lib.hid hr
  have HD := Lib.hid (fun w h => l4_deal g.s g.nx g.l p n c w HF.out.hn (by have := HF.out.n1; omega) HF.out.hc h HF.out.wf)
  have HP := Lib.hid (fun w => l1_in (ns : Int) 1 4 w)
  obtain ⟨b1, hb1⟩ : ∃ b1, (Dl.mk g.s g.nx g.l).ok = b1 := ⟨_, rfl⟩
  have HB1 := Lib.hid hb1
  rw [hb1] at HD
  obtain ⟨b2, hb2⟩ : ∃ b2, decide (1 ≤ (ns : Int) ∧ (ns : Int) ≤ 4) = b2 := ⟨_, rfl⟩
  have HB2 := Lib.hid hb2
  rw [hb2] at HP
  have HS := Lib.hid HF.out.hs
  have HW := Lib.hid HF.out.hw
  clear hf hr hb1 hb2
  cases b1
  · have HT := Lib.hid (Gm.no (g := g) (fun h => by have := Dl.ok_iff.2 h.d; have h2 := HB1.out; unfold Gm.d at this; rw [this] at h2; cases h2))
    obtain ⟨s, nx, l, sc, wt⟩ := g
    simp only at HR HD ⊢
    go_enter Try.func27, Try.ntmps27
    go_wp2_with fail
    refine ((HD.out _ (RdG.a (by repeat (first | with_reducible exact HR.out | with_reducible apply RdG.drewN | with_reducible apply RdG.drew | with_reducible apply RdG.alloc))))).mono ?_
    rintro e w1 ⟨rfl, b⟩
    have Sw1 := Lib.hid b.size
    have HB := Lib.hid (chain0 (w := w) (by repeat (first | with_reducible exact Below.refl _ _ | with_reducible exact HB.out | with_reducible apply Below.drew | with_reducible apply bdN | with_reducible refine Below.alloc ?_ (by first | exact Nat.le_refl _ | with_reducible exact HB.out.size | omega | (simp; done) | (simp; omega) | (have := HB.out.size; simp at *; omega)) _)) b)
    have HR := Lib.hid (RdG.below (by repeat (first | with_reducible exact HR.out | with_reducible apply RdG.drewN | with_reducible apply RdG.drew | with_reducible apply RdG.alloc)) b)
    have K1 : Hid (GBox _ (w.heap.size) (⟨33, s, nx, .slice p n c, .slice ps ns cs, .slice pw nw cw⟩)) := Lib.hid (GBox.below (by repeat (first | with_reducible exact K1.out | with_reducible apply GBox.drewN | with_reducible apply GBox.drew | (with_reducible refine GBox.newAt ?_ ?_ <;> first | (simp; done) | rfl) | with_reducible apply GBox.alloc)) b)
    try clear k1a k1b k1c k1d k1e k1z
    have k1z := K1.out.lt
    obtain ⟨k1a, k1b, k1c, k1d, k1e⟩ := K1.out.cell
    clear b
    go_wp2_with fail
    go_ret
    exact ⟨ret_bool HT.out.symm, by repeat (first | with_reducible exact Below.refl _ _ | with_reducible exact HB.out | with_reducible apply Below.drew | with_reducible apply bdN | with_reducible refine Below.alloc ?_ (by first | exact Nat.le_refl _ | with_reducible exact HB.out.size | omega | (simp; done) | (simp; omega) | (have := HB.out.size; simp at *; omega)) _)⟩
  · cases b2
    · have HT := Lib.hid (Gm.no (g := g) (fun h => by have h2 := of_decide_eq_false HB2.out; have h1 := h.p1; have h4 := h.p4; have h3 := HS.out; omega))
      obtain ⟨s, nx, l, sc, wt⟩ := g
      simp only at HR HD ⊢
      go_enter Try.func27, Try.ntmps27
      go_wp2_with fail
      refine ((HD.out _ (RdG.a (by repeat (first | with_reducible exact HR.out | with_reducible apply RdG.drewN | with_reducible apply RdG.drew | with_reducible apply RdG.alloc))))).mono ?_
      rintro e w1 ⟨rfl, b⟩
      have Sw1 := Lib.hid b.size
      have HB := Lib.hid (chain0 (w := w) (by repeat (first | with_reducible exact Below.refl _ _ | with_reducible exact HB.out | with_reducible apply Below.drew | with_reducible apply bdN | with_reducible refine Below.alloc ?_ (by first | exact Nat.le_refl _ | with_reducible exact HB.out.size | omega | (simp; done) | (simp; omega) | (have := HB.out.size; simp at *; omega)) _)) b)
      have HR := Lib.hid (RdG.below (by repeat (first | with_reducible exact HR.out | with_reducible apply RdG.drewN | with_reducible apply RdG.drew | with_reducible apply RdG.alloc)) b)
      have K1 : Hid (GBox _ (w.heap.size) (⟨33, s, nx, .slice p n c, .slice ps ns cs, .slice pw nw cw⟩)) := Lib.hid (GBox.below (by repeat (first | with_reducible exact K1.out | with_reducible apply GBox.drewN | with_reducible apply GBox.drew | (with_reducible refine GBox.newAt ?_ ?_ <;> first | (simp; done) | rfl) | with_reducible apply GBox.alloc)) b)
      try clear k1a k1b k1c k1d k1e k1z
      have k1z := K1.out.lt
      obtain ⟨k1a, k1b, k1c, k1d, k1e⟩ := K1.out.cell
      clear b
      go_wp2_with fail
      refine ((HP.out _)).mono ?_
      rintro e w2 ⟨rfl, b⟩
      have Sw2 := Lib.hid b.size
      have HB := Lib.hid (chain0 (w := w) (by repeat (first | with_reducible exact Below.refl _ _ | with_reducible exact HB.out | with_reducible apply Below.drew | with_reducible apply bdN | with_reducible refine Below.alloc ?_ (by first | exact Nat.le_refl _ | with_reducible exact HB.out.size | omega | (simp; done) | (simp; omega) | (have := HB.out.size; simp at *; omega)) _)) b)
      have HR := Lib.hid (RdG.below (by repeat (first | with_reducible exact HR.out | with_reducible apply RdG.drewN | with_reducible apply RdG.drew | with_reducible apply RdG.alloc)) b)
      have K1 : Hid (GBox _ (w.heap.size) (⟨33, s, nx, .slice p n c, .slice ps ns cs, .slice pw nw cw⟩)) := Lib.hid (GBox.below (by repeat (first | with_reducible exact K1.out | with_reducible apply GBox.drewN | with_reducible apply GBox.drew | (with_reducible refine GBox.newAt ?_ ?_ <;> first | (simp; done) | rfl) | with_reducible apply GBox.alloc)) b)
      try clear k1a k1b k1c k1d k1e k1z
      have k1z := K1.out.lt
      obtain ⟨k1a, k1b, k1c, k1d, k1e⟩ := K1.out.cell
      clear b
      go_wp2_with fail
      go_ret
      exact ⟨ret_bool HT.out.symm, by repeat (first | with_reducible exact Below.refl _ _ | with_reducible exact HB.out | with_reducible apply Below.drew | with_reducible apply bdN | with_reducible refine Below.alloc ?_ (by first | exact Nat.le_refl _ | with_reducible exact HB.out.size | omega | (simp; done) | (simp; omega) | (have := HB.out.size; simp at *; omega)) _)⟩
    · by_cases hw : nw = ns
      · subst hw
        have hi := of_decide_eq_true HB2.out
        have HE := Lib.hid (fun h => okT_end (g := g) (Dl.ok_iff.1 HB1.out) (by rw [HS.out]; omega) (by rw [HS.out]; omega) (by rw [HS.out, HW.out]) h)
        obtain ⟨s, nx, l, sc, wt⟩ := g
        simp only at HR HR0 HD HS HW HE ⊢
        have hn4 : nw ≤ 4 := by omega
        clear hi
        go_enter Try.func27, Try.ntmps27
        go_wp2_with fail
        refine ((HD.out _ (RdG.a (by repeat (first | with_reducible exact HR.out | with_reducible apply RdG.drewN | with_reducible apply RdG.drew | with_reducible apply RdG.alloc))))).mono ?_
        rintro e w1 ⟨rfl, b⟩
        have Sw1 := Lib.hid b.size
        have HB := Lib.hid (chain0 (w := w) (by repeat (first | with_reducible exact Below.refl _ _ | with_reducible exact HB.out | with_reducible apply Below.drew | with_reducible apply bdN | with_reducible refine Below.alloc ?_ (by first | exact Nat.le_refl _ | with_reducible exact HB.out.size | omega | (simp; done) | (simp; omega) | (have := HB.out.size; simp at *; omega)) _)) b)
        have HR := Lib.hid (RdG.below (by repeat (first | with_reducible exact HR.out | with_reducible apply RdG.drewN | with_reducible apply RdG.drew | with_reducible apply RdG.alloc)) b)
        have K1 : Hid (GBox _ (w.heap.size) (⟨33, s, nx, .slice p n c, .slice ps nw cs, .slice pw nw cw⟩)) := Lib.hid (GBox.below (by repeat (first | with_reducible exact K1.out | with_reducible apply GBox.drewN | with_reducible apply GBox.drew | (with_reducible refine GBox.newAt ?_ ?_ <;> first | (simp; done) | rfl) | with_reducible apply GBox.alloc)) b)
        try clear k1a k1b k1c k1d k1e k1z
        have k1z := K1.out.lt
        obtain ⟨k1a, k1b, k1c, k1d, k1e⟩ := K1.out.cell
        clear b
        go_wp2_with fail
        refine ((HP.out _)).mono ?_
        rintro e w2 ⟨rfl, b⟩
        have Sw2 := Lib.hid b.size
        have HB := Lib.hid (chain0 (w := w) (by repeat (first | with_reducible exact Below.refl _ _ | with_reducible exact HB.out | with_reducible apply Below.drew | with_reducible apply bdN | with_reducible refine Below.alloc ?_ (by first | exact Nat.le_refl _ | with_reducible exact HB.out.size | omega | (simp; done) | (simp; omega) | (have := HB.out.size; simp at *; omega)) _)) b)
        have HR := Lib.hid (RdG.below (by repeat (first | with_reducible exact HR.out | with_reducible apply RdG.drewN | with_reducible apply RdG.drew | with_reducible apply RdG.alloc)) b)
        have K1 : Hid (GBox _ (w.heap.size) (⟨33, s, nx, .slice p n c, .slice ps nw cs, .slice pw nw cw⟩)) := Lib.hid (GBox.below (by repeat (first | with_reducible exact K1.out | with_reducible apply GBox.drewN | with_reducible apply GBox.drew | (with_reducible refine GBox.newAt ?_ ?_ <;> first | (simp; done) | rfl) | with_reducible apply GBox.alloc)) b)
        try clear k1a k1b k1c k1d k1e k1z
        have k1z := K1.out.lt
        obtain ⟨k1a, k1b, k1c, k1d, k1e⟩ := K1.out.cell
        clear b
        go_wp2_with fail
        go_loopw [3] (fun i wr => ∃ k : Nat, k ≤ nw ∧ i = .int .i64 k ∧ Hid (okT ⟨s, nx, l, sc, wt⟩ k) ∧ Hid (Below w.heap.size w wr) ∧ Hid (GBox wr w.heap.size ⟨33, s, nx, .slice p n c, .slice ps nw cs, .slice pw nw cw⟩)) (fun i _ => nw - (intOf i).toNat)
        case atStart => exact ⟨0, Nat.zero_le _, rfl, Lib.hid (fun j h => by omega), HB, K1⟩
        case round =>
          clear HB K1 HR k1a k1b k1c k1d k1e k1z
          obtain ⟨k, hk, rfl, HI, HB, K1⟩ := hrel
          obtain ⟨k1a, k1b, k1c, k1d, k1e⟩ := K1.out.cell
          have k1z := K1.out.lt
          have m0 : (0 : Int) ≤ (k : Int) := by omega
          by_cases hlt : k < nw
          · have m1 : (k : Int) < (nw : Int) := by omega
            have HR := Lib.hid (RdG.below HR0.out HB.out)
            obtain ⟨b1, o1, x, rfl, hb1, hx, c0⟩ := HR.out.b.int (k := k) (by rw [HS.out]; exact hlt)
            obtain ⟨b2, o2, y, rfl, hb2, hy, d0⟩ := HR.out.c.int (k := k) (by rw [HW.out]; exact hlt)
            have HX := Lib.hid hx
            have HY := Lib.hid hy
            have HC1 := Lib.hid (fun w => l1_in x 0 60 w)
            have HC2 := Lib.hid (fun w => l1_in y 0 60 w)
            obtain ⟨q1, hq1⟩ : ∃ q1, decide (0 ≤ x ∧ x ≤ 60) = q1 := ⟨_, rfl⟩
            obtain ⟨q2, hq2⟩ : ∃ q2, decide (0 ≤ y ∧ y ≤ 60) = q2 := ⟨_, rfl⟩
            have HQ1 := Lib.hid hq1
            have HQ2 := Lib.hid hq2
            rw [hq1] at HC1
            rw [hq2] at HC2
            clear hx hy hq1 hq2
            cases q1
            · have HT := Lib.hid (Gm.no (g := ⟨s, nx, l, sc, wt⟩) (fun h => of_decide_eq_false HQ1.out (tly_at h.ts HX.out)))
              go_wp2_with fail
              refine (HC1.out _).mono ?_
              rintro e w3 ⟨rfl, b⟩
              have Sw3 := Lib.hid b.size
              have HB := Lib.hid (chain0 (w := w) (by repeat (first | with_reducible exact Below.refl _ _ | with_reducible exact HB.out | with_reducible apply Below.drew | with_reducible apply bdN | with_reducible refine Below.alloc ?_ (by first | exact Nat.le_refl _ | with_reducible exact HB.out.size | omega | (simp; done) | (simp; omega) | (have := HB.out.size; simp at *; omega)) _)) b)
              have K1 : Hid (GBox _ (w.heap.size) (⟨33, s, nx, .slice p n c, .slice (some ⟨b1, o1, none⟩) nw cs, .slice (some ⟨b2, o2, none⟩) nw cw⟩)) := Lib.hid (GBox.below (by repeat (first | with_reducible exact K1.out | with_reducible apply GBox.drewN | with_reducible apply GBox.drew | (with_reducible refine GBox.newAt ?_ ?_ <;> first | (simp; done) | rfl) | with_reducible apply GBox.alloc)) b)
              try clear k1a k1b k1c k1d k1e k1z
              have k1z := K1.out.lt
              obtain ⟨k1a, k1b, k1c, k1d, k1e⟩ := K1.out.cell
              clear b
              go_wp2_with fail
              go_ret
              exact ⟨ret_bool HT.out.symm, HB.out⟩
            · cases q2
              · have HT := Lib.hid (Gm.no (g := ⟨s, nx, l, sc, wt⟩) (fun h => of_decide_eq_false HQ2.out (tly_at h.tw HY.out)))
                go_wp2_with fail
                refine (HC1.out _).mono ?_
                rintro e w3 ⟨rfl, b⟩
                have d0 := (Below.cell b (p := ⟨b2, _, none⟩) hb2).trans d0
                have Sw3 := Lib.hid b.size
                have HB := Lib.hid (chain0 (w := w) (by repeat (first | with_reducible exact Below.refl _ _ | with_reducible exact HB.out | with_reducible apply Below.drew | with_reducible apply bdN | with_reducible refine Below.alloc ?_ (by first | exact Nat.le_refl _ | with_reducible exact HB.out.size | omega | (simp; done) | (simp; omega) | (have := HB.out.size; simp at *; omega)) _)) b)
                have K1 : Hid (GBox _ (w.heap.size) (⟨33, s, nx, .slice p n c, .slice (some ⟨b1, o1, none⟩) nw cs, .slice (some ⟨b2, o2, none⟩) nw cw⟩)) := Lib.hid (GBox.below (by repeat (first | with_reducible exact K1.out | with_reducible apply GBox.drewN | with_reducible apply GBox.drew | (with_reducible refine GBox.newAt ?_ ?_ <;> first | (simp; done) | rfl) | with_reducible apply GBox.alloc)) b)
                try clear k1a k1b k1c k1d k1e k1z
                have k1z := K1.out.lt
                obtain ⟨k1a, k1b, k1c, k1d, k1e⟩ := K1.out.cell
                clear b
                go_wp2_with fail
                refine (HC2.out _).mono ?_
                rintro e w4 ⟨rfl, b⟩
                have Sw4 := Lib.hid b.size
                have HB := Lib.hid (chain0 (w := w) (by repeat (first | with_reducible exact Below.refl _ _ | with_reducible exact HB.out | with_reducible apply Below.drew | with_reducible apply bdN | with_reducible refine Below.alloc ?_ (by first | exact Nat.le_refl _ | with_reducible exact HB.out.size | omega | (simp; done) | (simp; omega) | (have := HB.out.size; simp at *; omega)) _)) b)
                have K1 : Hid (GBox _ (w.heap.size) (⟨33, s, nx, .slice p n c, .slice (some ⟨b1, o1, none⟩) nw cs, .slice (some ⟨b2, o2, none⟩) nw cw⟩)) := Lib.hid (GBox.below (by repeat (first | with_reducible exact K1.out | with_reducible apply GBox.drewN | with_reducible apply GBox.drew | (with_reducible refine GBox.newAt ?_ ?_ <;> first | (simp; done) | rfl) | with_reducible apply GBox.alloc)) b)
                try clear k1a k1b k1c k1d k1e k1z
                have k1z := K1.out.lt
                obtain ⟨k1a, k1b, k1c, k1d, k1e⟩ := K1.out.cell
                clear b
                go_wp2_with fail
                go_ret
                exact ⟨ret_bool HT.out.symm, HB.out⟩
              · have HI2 : Hid (okT ⟨s, nx, l, sc, wt⟩ (k + 1)) := Lib.hid (fun j hj => by
                  rcases Nat.lt_or_ge j k with h | h
                  · exact HI.out j h
                  · obtain rfl : j = k := by omega
                    exact ⟨fun z hz => by have h1 : sc[j]? = some x := HX.out; rw [show sc[j]? = some z from hz] at h1; injection h1 with h1; subst h1; exact of_decide_eq_true HQ1.out, fun z hz => by have h1 : wt[j]? = some y := HY.out; rw [show wt[j]? = some z from hz] at h1; injection h1 with h1; subst h1; exact of_decide_eq_true HQ2.out⟩)
                go_wp2_with fail
                refine (HC1.out _).mono ?_
                rintro e w3 ⟨rfl, b⟩
                have d0 := (Below.cell b (p := ⟨b2, _, none⟩) hb2).trans d0
                have Sw3 := Lib.hid b.size
                have HB := Lib.hid (chain0 (w := w) (by repeat (first | with_reducible exact Below.refl _ _ | with_reducible exact HB.out | with_reducible apply Below.drew | with_reducible apply bdN | with_reducible refine Below.alloc ?_ (by first | exact Nat.le_refl _ | with_reducible exact HB.out.size | omega | (simp; done) | (simp; omega) | (have := HB.out.size; simp at *; omega)) _)) b)
                have K1 : Hid (GBox _ (w.heap.size) (⟨33, s, nx, .slice p n c, .slice (some ⟨b1, o1, none⟩) nw cs, .slice (some ⟨b2, o2, none⟩) nw cw⟩)) := Lib.hid (GBox.below (by repeat (first | with_reducible exact K1.out | with_reducible apply GBox.drewN | with_reducible apply GBox.drew | (with_reducible refine GBox.newAt ?_ ?_ <;> first | (simp; done) | rfl) | with_reducible apply GBox.alloc)) b)
                try clear k1a k1b k1c k1d k1e k1z
                have k1z := K1.out.lt
                obtain ⟨k1a, k1b, k1c, k1d, k1e⟩ := K1.out.cell
                clear b
                go_wp2_with fail
                refine (HC2.out _).mono ?_
                rintro e w4 ⟨rfl, b⟩
                have Sw4 := Lib.hid b.size
                have HB := Lib.hid (chain0 (w := w) (by repeat (first | with_reducible exact Below.refl _ _ | with_reducible exact HB.out | with_reducible apply Below.drew | with_reducible apply bdN | with_reducible refine Below.alloc ?_ (by first | exact Nat.le_refl _ | with_reducible exact HB.out.size | omega | (simp; done) | (simp; omega) | (have := HB.out.size; simp at *; omega)) _)) b)
                have K1 : Hid (GBox _ (w.heap.size) (⟨33, s, nx, .slice p n c, .slice (some ⟨b1, o1, none⟩) nw cs, .slice (some ⟨b2, o2, none⟩) nw cw⟩)) := Lib.hid (GBox.below (by repeat (first | with_reducible exact K1.out | with_reducible apply GBox.drewN | with_reducible apply GBox.drew | (with_reducible refine GBox.newAt ?_ ?_ <;> first | (simp; done) | rfl) | with_reducible apply GBox.alloc)) b)
                try clear k1a k1b k1c k1d k1e k1z
                have k1z := K1.out.lt
                obtain ⟨k1a, k1b, k1c, k1d, k1e⟩ := K1.out.cell
                clear b
                go_wp2_with fail
                go_roundw
                case rel => exact ⟨k + 1, by omega, by go_num, HI2, HB, K1⟩
                case measure => simp [intOf]; omega
          · obtain rfl : k = nw := by omega
            have HT := Lib.hid (HE.out (by show okT _ sc.length; rw [HS.out]; exact HI.out))
            go_wp2_with fail
            go_ret
            exact ⟨ret_bool HT.out.symm, HB.out⟩
      · have HT := Lib.hid (Gm.no (g := g) (fun h => by have h2 := h.eq; rw [HS.out, HW.out] at h2; exact hw h2))
        have hw2 : ((nw : Int) != (ns : Int)) = true := by simp; omega
        clear hw
        obtain ⟨s, nx, l, sc, wt⟩ := g
        simp only at HR HD ⊢
        go_enter Try.func27, Try.ntmps27
        go_wp2_with fail
        refine ((HD.out _ (RdG.a (by repeat (first | with_reducible exact HR.out | with_reducible apply RdG.drewN | with_reducible apply RdG.drew | with_reducible apply RdG.alloc))))).mono ?_
        rintro e w1 ⟨rfl, b⟩
        have Sw1 := Lib.hid b.size
        have HB := Lib.hid (chain0 (w := w) (by repeat (first | with_reducible exact Below.refl _ _ | with_reducible exact HB.out | with_reducible apply Below.drew | with_reducible apply bdN | with_reducible refine Below.alloc ?_ (by first | exact Nat.le_refl _ | with_reducible exact HB.out.size | omega | (simp; done) | (simp; omega) | (have := HB.out.size; simp at *; omega)) _)) b)
        have HR := Lib.hid (RdG.below (by repeat (first | with_reducible exact HR.out | with_reducible apply RdG.drewN | with_reducible apply RdG.drew | with_reducible apply RdG.alloc)) b)
        have K1 : Hid (GBox _ (w.heap.size) (⟨33, s, nx, .slice p n c, .slice ps ns cs, .slice pw nw cw⟩)) := Lib.hid (GBox.below (by repeat (first | with_reducible exact K1.out | with_reducible apply GBox.drewN | with_reducible apply GBox.drew | (with_reducible refine GBox.newAt ?_ ?_ <;> first | (simp; done) | rfl) | with_reducible apply GBox.alloc)) b)
        try clear k1a k1b k1c k1d k1e k1z
        have k1z := K1.out.lt
        obtain ⟨k1a, k1b, k1c, k1d, k1e⟩ := K1.out.cell
        clear b
        go_wp2_with fail
        refine ((HP.out _)).mono ?_
        rintro e w2 ⟨rfl, b⟩
        have Sw2 := Lib.hid b.size
        have HB := Lib.hid (chain0 (w := w) (by repeat (first | with_reducible exact Below.refl _ _ | with_reducible exact HB.out | with_reducible apply Below.drew | with_reducible apply bdN | with_reducible refine Below.alloc ?_ (by first | exact Nat.le_refl _ | with_reducible exact HB.out.size | omega | (simp; done) | (simp; omega) | (have := HB.out.size; simp at *; omega)) _)) b)
        have HR := Lib.hid (RdG.below (by repeat (first | with_reducible exact HR.out | with_reducible apply RdG.drewN | with_reducible apply RdG.drew | with_reducible apply RdG.alloc)) b)
        have K1 : Hid (GBox _ (w.heap.size) (⟨33, s, nx, .slice p n c, .slice ps ns cs, .slice pw nw cw⟩)) := Lib.hid (GBox.below (by repeat (first | with_reducible exact K1.out | with_reducible apply GBox.drewN | with_reducible apply GBox.drew | (with_reducible refine GBox.newAt ?_ ?_ <;> first | (simp; done) | rfl) | with_reducible apply GBox.alloc)) b)
        try clear k1a k1b k1c k1d k1e k1z
        have k1z := K1.out.lt
        obtain ⟨k1a, k1b, k1c, k1d, k1e⟩ := K1.out.cell
        clear b
        go_wp2_with fail
        go_ret
        exact ⟨ret_bool HT.out.symm, by repeat (first | with_reducible exact Below.refl _ _ | with_reducible exact HB.out | with_reducible apply Below.drew | with_reducible apply bdN | with_reducible refine Below.alloc ?_ (by first | exact Nat.le_refl _ | with_reducible exact HB.out.size | omega | (simp; done) | (simp; omega) | (have := HB.out.size; simp at *; omega)) _)⟩
end Go.Proofs.Ytjpfjgoebdogjaa.game

/- Lines ahead, players, places, points: the program's and the model's. -/
namespace Go.Proofs.Ytjpfjgoebdogjaa.game
open Go.RowKit
open cards deal
set_option linter.unusedVariables false

set_option maxHeartbeats 1000000 in
theorem is_player (s nx x : Int) (p ps pw : Option Addr) (n c ns cs nw cw : Nat) (w : World) :
    Calls Try.prog 48 #[gval s nx (.slice p n c) (.slice ps ns cs) (.slice pw nw cw), .int .i64 x] w fun e w' => e = .returned (.bool (isP ns x)) ∧ Below w.heap.size w w' := by
  by_cases h0 : 0 ≤ x
  · have HT := Lib.hid (show decide (x < ns) = isP ns x by unfold isP; simp [h0])
    go_enter Try.func48, Try.ntmps48
    go_wp2_with fail
    go_ret
    exact ⟨ret_bool HT.out, by repeat (first | with_reducible exact Below.refl _ _ | with_reducible exact HB.out | with_reducible apply Below.drew | with_reducible apply bdN | with_reducible refine Below.alloc ?_ (by first | exact Nat.le_refl _ | with_reducible exact HB.out.size | omega | (simp; done) | (simp; omega) | (have := HB.out.size; simp at *; omega)) _)⟩
  · have HT := Lib.hid (show false = isP ns x by unfold isP; simp [h0])
    go_enter Try.func48, Try.ntmps48
    go_wp2_with fail
    go_ret
    exact ⟨ret_bool HT.out, by repeat (first | with_reducible exact Below.refl _ _ | with_reducible exact HB.out | with_reducible apply Below.drew | with_reducible apply bdN | with_reducible refine Below.alloc ?_ (by first | exact Nat.le_refl _ | with_reducible exact HB.out.size | omega | (simp; done) | (simp; omega) | (have := HB.out.size; simp at *; omega)) _)⟩
set_option maxHeartbeats 2000000 in
theorem on_table (t : A3) (p : Option Addr) (n c : Nat) (w : World) :
    Calls Try.prog 106 #[.slice p n c, t.val] w fun e w' => e = .returned (.bool (onT n t)) ∧ Below w.heap.size w w' := by
  by_cases h0 : 0 ≤ t.a
  · by_cases h1 : t.a < t.b
    · by_cases h2 : t.b < t.c
      · have HT := Lib.hid (show decide (t.c < n) = onT n t by unfold onT; simp [h0, h1, h2])
        go_enter Try.func106, Try.ntmps106
        go_wp2_with fail
        go_ret
        exact ⟨ret_bool HT.out, by repeat (first | with_reducible exact Below.refl _ _ | with_reducible exact HB.out | with_reducible apply Below.drew | with_reducible apply bdN | with_reducible refine Below.alloc ?_ (by first | exact Nat.le_refl _ | with_reducible exact HB.out.size | omega | (simp; done) | (simp; omega) | (have := HB.out.size; simp at *; omega)) _)⟩
      · have HT := Lib.hid (show false = onT n t by unfold onT; simp [h0, h1, h2])
        go_enter Try.func106, Try.ntmps106
        go_wp2_with fail
        go_ret
        exact ⟨ret_bool HT.out, by repeat (first | with_reducible exact Below.refl _ _ | with_reducible exact HB.out | with_reducible apply Below.drew | with_reducible apply bdN | with_reducible refine Below.alloc ?_ (by first | exact Nat.le_refl _ | with_reducible exact HB.out.size | omega | (simp; done) | (simp; omega) | (have := HB.out.size; simp at *; omega)) _)⟩
    · have HT := Lib.hid (show false = onT n t by unfold onT; simp [h0, h1])
      go_enter Try.func106, Try.ntmps106
      go_wp2_with fail
      go_ret
      exact ⟨ret_bool HT.out, by repeat (first | with_reducible exact Below.refl _ _ | with_reducible exact HB.out | with_reducible apply Below.drew | with_reducible apply bdN | with_reducible refine Below.alloc ?_ (by first | exact Nat.le_refl _ | with_reducible exact HB.out.size | omega | (simp; done) | (simp; omega) | (have := HB.out.size; simp at *; omega)) _)⟩
  · have HT := Lib.hid (show false = onT n t by unfold onT; simp [h0])
    go_enter Try.func106, Try.ntmps106
    go_wp2_with fail
    go_ret
    exact ⟨ret_bool HT.out, by repeat (first | with_reducible exact Below.refl _ _ | with_reducible exact HB.out | with_reducible apply Below.drew | with_reducible apply bdN | with_reducible refine Below.alloc ?_ (by first | exact Nat.le_refl _ | with_reducible exact HB.out.size | omega | (simp; done) | (simp; omega) | (have := HB.out.size; simp at *; omega)) _)⟩

/-! Points. -/
theorem partP_set {g : Gm} {n k : Nat} {a b : Int} (h : (pts g).length = n) (hk : k < n) (ha : g.sc[k]? = some a) (hb : g.wr[k]? = some b) : (partI (pts g) n k).set k (a - b) = partI (pts g) n (k + 1) := partI_set h hk (pts_at ha hb)

set_option maxRecDepth 100000 in
set_option maxHeartbeats 2000000 in
theorem player_points (g : Gm) (p ps pw : Option Addr) (n c ns cs cw : Nat) (w : World) (hs : g.sc.length = ns) (hw : g.wr.length = ns) (hl : ns ≤ 1000) (hts : tly g.sc = true) (htw : tly g.wr = true) (hr : RdG w p ps pw g.l g.sc g.wr) :
    Calls Try.prog 42 #[gval g.s g.nx (.slice p n c) (.slice ps ns cs) (.slice pw ns cw)] w fun e w' => ∃ v, e = .returned v ∧ OwnI w' w.heap.size v (pts g) ∧ Below w.heap.size w w' := by
  have HS := Lib.hid hs
  have HW := Lib.hid hw
  have HR0 := Lib.hid hr
  have HTs := Lib.hid hts
  have HTw := Lib.hid htw
  have HPl := Lib.hid ((pts_len (g := g) (by rw [hs, hw])).trans hs)
  have HPs := Lib.hid (fun k a b => partP_set (g := g) (n := ns) (k := k) (a := a) (b := b) HPl.out)
  have hmk := madeI ns (by omega)
  obtain ⟨P, hP⟩ : ∃ P, pts g = P := ⟨_, rfl⟩
  rw [hP] at HPl HPs ⊢
  obtain ⟨s, nx, l, sc, wt⟩ := g
  simp only at HS HW HR0 HTs HTw HPs ⊢
  clear hs hw hr hts htw hP
  have K1 : Hid (GBox (w.alloc (Gv.obj ⟨33, s, nx, .slice p n c, .slice ps ns cs, .slice pw ns cw⟩)) w.heap.size ⟨33, s, nx, .slice p n c, .slice ps ns cs, .slice pw ns cw⟩) := Lib.hid (GBox.newAt rfl rfl)
  have HB : Hid (Below w.heap.size w (w.alloc (Gv.obj ⟨33, s, nx, .slice p n c, .slice ps ns cs, .slice pw ns cw⟩))) := Lib.hid ((Below.refl _ _).alloc (Nat.le_refl _) _)
  go_enter Try.func42, Try.ntmps42
  go_upto_region 1 with fail
  obtain ⟨W, hW⟩ : ∃ W, W = w.alloc (Gv.obj ⟨33, s, nx, .slice p n c, .slice ps ns cs, .slice pw ns cw⟩) := ⟨_, rfl⟩
  rw [← hW] at K1 HB
  rw [← hW]
  clear hW
  obtain ⟨k1a, k1b, k1c, k1d, k1e⟩ := K1.out.cell
  have k1z := K1.out.lt
  have HO := Lib.hid (own_madeI W ns (by omega))
  have K1a := Lib.hid (K1.out.alloc (.cells (madeCells #[Value.int .i64 0] ns) 3))
  have HB1 := Lib.hid (HB.out.alloc HB.out.size (.cells (madeCells #[Value.int .i64 0] ns) 3))
  have HWs := HB.out.size
  rw [← partI_zero P ns] at HO
  go_wp2_with fail
  go_loopw [4, 5, 13] (fun _ _ i wr => ∃ k : Nat, k ≤ ns ∧ i = .int .i64 k ∧ Hid (OwnI wr W.heap.size (.slice (some ⟨W.heap.size, 0, none⟩) ns ns) (partI P ns k)) ∧ Hid (Below w.heap.size w wr) ∧ Hid (GBox wr w.heap.size ⟨33, s, nx, .slice p n c, .slice ps ns cs, .slice pw ns cw⟩)) (fun _ _ i _ => ns - (intOf i).toNat)
  case atStart => exact ⟨0, Nat.zero_le _, rfl, HO, HB1, K1a⟩
  case round =>
    clear HB HB1 K1a k1a k1b k1c k1d k1e HO
    have K1z := Lib.hid k1z
    clear K1 hmk
    obtain ⟨k, hk, rfl, HO, HB, K1⟩ := hrel
    clear k1z
    obtain ⟨k1a, k1b, k1c, k1d, k1e⟩ := K1.out.cell
    have k1z := K1.out.lt
    have m0 : (0 : Int) ≤ (k : Int) := by omega
    by_cases hlt : k < ns
    · have m1 : (k : Int) < (ns : Int) := by omega
      have HR := Lib.hid (RdG.below HR0.out HB.out)
      obtain ⟨b1, o1, x, rfl, hb1, hx, c0⟩ := HR.out.b.int (k := k) (by rw [HS.out]; exact hlt)
      obtain ⟨b2, o2, y, rfl, hb2, hy, d0⟩ := HR.out.c.int (k := k) (by rw [HW.out]; exact hlt)
      obtain ⟨hx0, hx1⟩ := tly_at HTs.out hx
      obtain ⟨hy0, hy1⟩ := tly_at HTw.out hy
      have HP := Lib.hid (HPs.out k x y hlt hx hy)
      obtain ⟨z, hz, f0, hf, hB, hg⟩ := HO.out.slot (partI_len HPl.out hk) k hlt
      have HSt := Lib.hid (HO.out.store (partI_len HPl.out hk) k (x - y))
      rw [HP.out] at HSt
      have HB2 := Lib.hid (HB.out.setCell (p := ⟨W.heap.size, k, none⟩) HWs (.int .i64 (x - y)))
      have K2 := Lib.hid (K1.out.farW (show w.heap.size ≠ W.heap.size from Nat.ne_of_lt K1z.out) k (.int .i64 (x - y)))
      clear hx hy hz HO
      go_wp2_with fail
      go_roundw
      case rel => exact ⟨k + 1, by omega, by go_num, HSt, HB2, K2⟩
      case measure => simp [intOf]; omega
    · obtain rfl : k = ns := by omega
      rw [partI_all HPl.out] at HO
      go_wp2_with fail
      go_ret
      exact ⟨_, rfl, OwnI.base HO.out HWs, HB.out⟩
end Go.Proofs.Ytjpfjgoebdogjaa.game

/- Operations by themselves, for regions that draw their order: loads of numbers and slices, sums, appends; the model's points. -/
namespace Go.Proofs.Ytjpfjgoebdogjaa.game
open Go.RowKit
open cards deal reg
set_option linter.unusedVariables false

theorem load_int {w : World} {p : Addr} {x : Int} (h : w.cell? p = some (.int .i64 x)) : (loadVar 3 p).run Try.prog w = .ok (.int .i64 x) w := by simp [loadVar, go_sem, h]
theorem load_slI {w : World} {p : Addr} {q : Option Addr} {n c : Nat} (h : w.cell? p = some (.slice q n c)) : (loadVar 25 p).run Try.prog w = .ok (.slice q n c) w := by simp [loadVar, go_sem, h]
theorem load_slC {w : World} {p : Addr} {q : Option Addr} {n c : Nat} (h : w.cell? p = some (.slice q n c)) : (loadVar 22 p).run Try.prog w = .ok (.slice q n c) w := by simp [loadVar, go_sem, h]
theorem exec_indexI {k n b ad cp : Nat} (hk : k < n) {a : Act} {o : Oper} {p q : Operand} (ho : o.op = .indexAddr 25 p q) (hp : a.eval p = .slice (some ⟨b, ad, none⟩) n cp) (hq : a.eval q = .int .i64 k) (w : World) :
    (execOp a.eval o).run Try.prog w = .ok (.value (.pointer (some ⟨b, ad + k, none⟩))) w := by
  have h0 : (0 : Int) ≤ (k : Int) := by omega
  have h1 : (k : Int) < (n : Int) := by omega
  unfold execOp
  rw [ho]
  simp only [hp, hq]
  go_simp
theorem exec_mul1 {x : Int} (hx : -1000000 ≤ x ∧ x ≤ 1000000) {a : Act} {o : Oper} {p : Operand} {s : TypeId} (ho : o.op = .binOp .mul 3 (.const (.int .i64 1)) p s) (hp : a.eval p = .int .i64 x) (w : World) :
    (execOp a.eval o).run Try.prog w = .ok (.value (.int .i64 x)) w := by
  obtain ⟨h0, h1⟩ := hx
  unfold execOp
  rw [ho]
  simp only [hp]
  go_simp
  try rw [Int.one_mul]
  try exact IntWalk.i64_in _ (by omega)
theorem exec_subI {x y : Int} (hx : -1000000 ≤ x ∧ x ≤ 1000000) (hy : -1000000 ≤ y ∧ y ≤ 1000000) {a : Act} {o : Oper} {p q : Operand} {s : TypeId} (ho : o.op = .binOp .sub 3 p q s) (hp : a.eval p = .int .i64 x) (hq : a.eval q = .int .i64 y) (w : World) :
    (execOp a.eval o).run Try.prog w = .ok (.value (.int .i64 (x - y))) w := by
  obtain ⟨h0, h1⟩ := hx
  obtain ⟨h2, h3⟩ := hy
  unfold execOp
  rw [ho]
  simp only [hp, hq]
  go_simp
  try exact IntWalk.i64_in _ (by omega)
theorem exec_addI {x y : Int} (hx : -1000000 ≤ x ∧ x ≤ 1000000) (hy : -1000000 ≤ y ∧ y ≤ 1000000) {a : Act} {o : Oper} {p q : Operand} {s : TypeId} (ho : o.op = .binOp .add 3 p q s) (hp : a.eval p = .int .i64 x) (hq : a.eval q = .int .i64 y) (w : World) :
    (execOp a.eval o).run Try.prog w = .ok (.value (.int .i64 (x + y))) w := by
  obtain ⟨h0, h1⟩ := hx
  obtain ⟨h2, h3⟩ := hy
  unfold execOp
  rw [ho]
  simp only [hp, hq]
  go_simp
  try exact IntWalk.i64_in _ (by omega)
/-- One number is appended to a row of the call's own. -/
theorem exec_appendI {w : World} {B : Nat} {v : Value} {l : List Int} {x : Int} {a : Act} {o : Oper} (s y : Operand) (ho : o.op = .call { callee := .builtin .append, args := #[s, y], argTypes := #[25, 25] }) (hs : a.eval s = v) {g : Nat} (hg : w.heap.size = g) (hy : a.eval y = .slice (some ⟨g, 0, none⟩) 1 1)
    (hO : OwnI w B v l) (hl : l.length ≤ 1000000) (hB : B ≤ w.heap.size) :
    ∃ v' w', (execOp a.eval o).run Try.prog (w.alloc (.cells #[.int .i64 x] 3)) = .ok (.value v') w' ∧ OwnI w' B v' (l ++ [x]) ∧ w.grownBy w' v.ownBlock ∧ (v'.ownBlock = v.ownBlock ∨ v'.ownBlock = some (w.heap.size + 1)) := by
  subst hg
  obtain ⟨i, hi, hz, hsz, hb⟩ := info_parts int_info
  have he : (w.alloc (.cells #[.int .i64 x] 3)).heap.size = w.heap.size + 1 := by simp
  obtain ⟨v', w', hr, h2, h3, h4, h5⟩ := run_append_own_at (P := Try.prog) (w.alloc (.cells #[.int .i64 x] 3)) B 25 o.type 3 i (.int .i64 0) 1 8 Try.underlying25 hi hz hsz hb rfl (by decide) v l.length (ints l) (hO.alloc _) ⟨w.heap.size, 0, none⟩ 1 1 [.int .i64 x] rfl (cell_one_new _ _ _) (fun u hu => by simp at hu; subst hu; rfl) (by simp only [maxLen]; omega) (by omega) (by omega)
  refine ⟨v', w', ?_, ?_, (World.grownBy_alloc w _ _).trans h3, by rw [he] at h5; exact h5⟩
  · unfold execOp
    simp only [ho, resolve, invoke, builtin, Sem.run_bind, Sem.run_pure, Result.andThen_ok, List.map_toArray, List.map_cons, List.map_nil, hs, hy, hr]
  · unfold OwnI
    rw [List.length_append]
    have e : ints (l ++ [x]) = ints l ++ [.int .i64 x] := by simp [ints]
    rw [e]; exact h2

theorem runs_appendI {ops : Array Oper} {S : World → Prop} {K : Act → World → Prop} {j : Nat} {r : List Nat} {a : Act} {w : World} {o : Oper} (s y : Operand) {B : Nat} {v : Value} {l : List Int} {x : Int} {g : Nat} (hj : ops[j]? = some o) (hgd : o.guard = none) (ho : o.op = .call { callee := .builtin .append, args := #[s, y], argTypes := #[25, 25] }) (hs : a.eval s = v) (hy : a.eval y = .slice (some ⟨g, 0, none⟩) 1 1) (hg : w.heap.size = g)
    (hO : OwnI w B v l) (hl : l.length ≤ 1000000) (hB : B ≤ w.heap.size)
    (h : ∀ v' w', OwnI w' B v' (l ++ [x]) → w.grownBy w' v.ownBlock → (v'.ownBlock = v.ownBlock ∨ v'.ownBlock = some (w.heap.size + 1)) → S w' ∧ runsS Try.prog ops S K r (a.put o.dst v') w') : runsS Try.prog ops S K (j :: r) a (w.alloc (.cells #[.int .i64 x] 3)) := by
  obtain ⟨v', w', e, h1, h2, h3⟩ := exec_appendI (x := x) s y ho hs hg hy hO hl hB
  obtain ⟨h4, h5⟩ := h v' w' h1 h2 h3
  exact ⟨o, w', v', hj, hgd, .inl e, h4, h5⟩

set_option maxRecDepth 100000 in
set_option maxHeartbeats 2000000 in
theorem l8_points (g : Gm) (p ps pw : Option Addr) (n c ns cs cw : Nat) (w : World) (hs : g.sc.length = ns) (hw : g.wr.length = ns) (hl : ns ≤ 1000) (hts : tly g.sc = true) (htw : tly g.wr = true) (hr : RdG w p ps pw g.l g.sc g.wr) :
    Calls Try.prog 39 #[gval g.s g.nx (.slice p n c) (.slice ps ns cs) (.slice pw ns cw)] w fun e w' => ∃ v, e = .returned v ∧ OwnI w' w.heap.size v (pts g) ∧ Below w.heap.size w w' := by
  have HS := Lib.hid hs
  have HW := Lib.hid hw
  have HR0 := Lib.hid hr
  have HTs := Lib.hid hts
  have HTw := Lib.hid htw
  have HPl := Lib.hid ((pts_len (g := g) (by rw [hs, hw])).trans hs)
  have HPs := Lib.hid (fun k a b ha hb => take_snoc (pts_at (g := g) (k := k) (a := a) (b := b) ha hb))
  obtain ⟨P, hP⟩ : ∃ P, pts g = P := ⟨_, rfl⟩
  rw [hP] at HPl HPs ⊢
  obtain ⟨s, nx, l, sc, wt⟩ := g
  simp only at HS HW HR0 HTs HTw HPs ⊢
  clear hs hw hr hts htw hP
  have K1 : Hid (GBox (w.alloc (Gv.obj ⟨33, s, nx, .slice p n c, .slice ps ns cs, .slice pw ns cw⟩)) w.heap.size ⟨33, s, nx, .slice p n c, .slice ps ns cs, .slice pw ns cw⟩) := Lib.hid (GBox.newAt rfl rfl)
  have HB : Hid (Below w.heap.size w (w.alloc (Gv.obj ⟨33, s, nx, .slice p n c, .slice ps ns cs, .slice pw ns cw⟩))) := Lib.hid ((Below.refl _ _).alloc (Nat.le_refl _) _)
  go_enter Try.func39, Try.ntmps39
  go_upto_region 1 with fail
  obtain ⟨W, hW⟩ : ∃ W, W = w.alloc (Gv.obj ⟨33, s, nx, .slice p n c, .slice ps ns cs, .slice pw ns cw⟩) := ⟨_, rfl⟩
  rw [← hW] at K1 HB
  rw [← hW]
  clear hW
  have HO : Hid (OwnI (W.alloc (.cells #[] 3)) W.heap.size (.slice (some ⟨W.heap.size, 0, none⟩) 0 0) (P.take 0)) := Lib.hid (OwnI.empty W W.heap.size (Nat.le_refl _))
  have K1a := Lib.hid (K1.out.alloc (.cells #[] 3))
  have HB1 := Lib.hid (HB.out.alloc HB.out.size (.cells #[] 3))
  have HWs := HB.out.size
  have K1z := Lib.hid K1.out.lt
  go_wp2_with fail
  go_loopw [3, 4] (fun u i wr => ∃ (k : Nat) (pu : Option Addr) (cu : Nat), k ≤ ns ∧ u = .slice pu k cu ∧ i = .int .i64 k ∧ Hid (OwnI wr W.heap.size (.slice pu k cu) (P.take k)) ∧ Hid (Below w.heap.size w wr) ∧ Hid (GBox wr w.heap.size ⟨33, s, nx, .slice p n c, .slice ps ns cs, .slice pw ns cw⟩) ∧ W.heap.size ≤ wr.heap.size) (fun _ i _ => ns - (intOf i).toNat)
  case atStart => exact ⟨0, _, _, Nat.zero_le _, rfl, rfl, HO, HB1, K1a, by simp⟩
  case round =>
    clear HB HB1 K1a HO K1
    obtain ⟨k, pu, cu, hk, rfl, rfl, HO, HB, K1, hwz⟩ := hrel
    obtain ⟨k1a, k1b, k1c, k1d, k1e⟩ := K1.out.cell
    have k1z := K1.out.lt
    have m0 : (0 : Int) ≤ (k : Int) := by omega
    by_cases hlt : k < ns
    · have m1 : (k : Int) < (ns : Int) := by omega
      have HR := Lib.hid (RdG.below HR0.out HB.out)
      obtain ⟨b1, o1, x, rfl, hb1, hx, c0⟩ := HR0.out.b.int (k := k) (by rw [HS.out]; exact hlt)
      obtain ⟨b2, o2, y, rfl, hb2, hy, d0⟩ := HR0.out.c.int (k := k) (by rw [HW.out]; exact hlt)
      have c0 := (HB.out.cell (p := ⟨b1, _, none⟩) hb1).trans c0
      have d0 := (HB.out.cell (p := ⟨b2, _, none⟩) hb2).trans d0
      obtain ⟨hx0, hx1⟩ := tly_at HTs.out hx
      obtain ⟨hy0, hy1⟩ := tly_at HTw.out hy
      have HP := Lib.hid (HPs.out k x y hx hy)
      have HTk := Lib.hid (show (P.take k).length = k by rw [List.length_take, HPl.out]; omega)
      clear hx hy
      have k1z' := K1z.out
      have HSf : ∀ w', Below W.heap.size wr w' → w'.cell? ⟨w.heap.size, 3, none⟩ = some (.slice (some ⟨b1, o1, none⟩) ns cs) ∧ w'.cell? ⟨w.heap.size, 4, none⟩ = some (.slice (some ⟨b2, o2, none⟩) ns cw) ∧ w'.cell? ⟨b1, o1 + k, none⟩ = some (.int .i64 x) ∧ w'.cell? ⟨b2, o2 + k, none⟩ = some (.int .i64 y) := fun w' h => ⟨(Below.cell h (p := ⟨w.heap.size, 3, none⟩) k1z').trans k1d, (Below.cell h (p := ⟨w.heap.size, 4, none⟩) k1z').trans k1e, (Below.cell h (p := ⟨b1, _, none⟩) (show b1 < W.heap.size by omega)).trans c0, (Below.cell h (p := ⟨b2, _, none⟩) (show b2 < W.heap.size by omega)).trans d0⟩
      go_upto_region 5 with fail
      refine region_jobsB [0, 1, 2, 3, 4, 5, 6, 7, 8, 9, 10, 11, 12] [] [13, 14, 15] (fun _ => 0) (fun _ _ _ _ _ => True) (by kernel_rfl) (by kernel_rfl) rfl (by kernel_rfl) (by decide) (by decide) (fun _ _ _ _ _ _ _ _ => trivial) (fun w' => w'.cell? ⟨w.heap.size, 3, none⟩ = some (.slice (some ⟨b1, o1, none⟩) ns cs) ∧ w'.cell? ⟨w.heap.size, 4, none⟩ = some (.slice (some ⟨b2, o2, none⟩) ns cw) ∧ w'.cell? ⟨b1, o1 + k, none⟩ = some (.int .i64 x) ∧ w'.cell? ⟨b2, o2 + k, none⟩ = some (.int .i64 y)) (fun w' h => HSf w' (h.mono hwz)) ?_
      refine j_pure 13 (v := .slice pu k cu) rfl rfl rfl (fun w => by kernel_rfl) ?_
      refine j_pure 14 (v := .pointer (some ⟨w.heap.size, 3, none⟩)) rfl rfl rfl (fun w => by kernel_rfl) ?_
      refine j_cell 15 (v := .slice (some ⟨b1, o1, none⟩) ns cs) rfl rfl rfl rfl (by kernel_rfl) (fun w' h => load_slI h.1) ?_
      refine j_pure 16 (v := .int .i64 k) rfl rfl rfl (fun w => by kernel_rfl) ?_
      refine j_pure 17 (v := .pointer (some ⟨b1, o1 + k, none⟩)) rfl rfl rfl (exec_indexI (n := ns) (cp := cs) hlt rfl (by kernel_rfl) (by kernel_rfl)) ?_
      refine j_cell 18 (v := .int .i64 x) rfl rfl rfl rfl (by kernel_rfl) (fun w' h => load_int h.2.2.1) ?_
      refine j_pure 19 (v := .pointer (some ⟨w.heap.size, 4, none⟩)) rfl rfl rfl (fun w => by kernel_rfl) ?_
      refine j_cell 20 (v := .slice (some ⟨b2, o2, none⟩) ns cw) rfl rfl rfl rfl (by kernel_rfl) (fun w' h => load_slI h.2.1) ?_
      refine j_pure 21 (v := .int .i64 k) rfl rfl rfl (fun w => by kernel_rfl) ?_
      refine j_pure 22 (v := .pointer (some ⟨b2, o2 + k, none⟩)) rfl rfl rfl (exec_indexI (n := ns) (cp := cw) hlt rfl (by kernel_rfl) (by kernel_rfl)) ?_
      refine j_cell 23 (v := .int .i64 y) rfl rfl rfl rfl (by kernel_rfl) (fun w' h => load_int h.2.2.2) ?_
      refine j_pure 24 (v := .int .i64 y) rfl rfl rfl (exec_mul1 (by omega) rfl (by kernel_rfl)) ?_
      refine j_pure 25 (v := .int .i64 (x - y)) rfl rfl rfl (exec_subI (x := x) (y := y) (by omega) (by omega) rfl (by kernel_rfl) (by kernel_rfl)) ?_
      refine ⟨fun j hj => by simp at hj, fun w' M hI _ _ => ?_⟩
      have HOw := HO.out.below hI
      have hwz2 := Nat.le_trans hwz (Below.size hI)
      obtain ⟨g', hg'⟩ : ∃ g', w'.heap.size = g' := ⟨_, rfl⟩
      simp only [putM]
      refine ⟨_, w'.alloc (.cells #[.int .i64 (x - y)] 3), .slice (some ⟨w'.heap.size, 0, none⟩) 1 1, rfl, rfl, .inl (by kernel_rfl), HSf _ ((Below.mono hI hwz).alloc hwz2 _), ?_⟩
      rw [hg']
      refine runs_appendI (.tmp 13) (.tmp 26) (B := W.heap.size) (v := .slice pu k cu) (l := P.take k) rfl rfl rfl (by kernel_rfl) (by kernel_rfl) hg' HOw (by rw [HTk.out]; omega) hwz2 ?_
      intro v2 w2 h2 h3 h4
      have hb2 : Below W.heap.size wr w2 := (Below.mono hI hwz).grown h3 hwz2 (fun q e => (HOw.span q e).1)
      refine ⟨HSf _ hb2, ?_⟩
      refine ⟨_, w2, v2, rfl, rfl, .inl (by kernel_rfl), HSf _ hb2, ?_⟩
      rw [← HP.out] at h2
      have HO2 := Lib.hid h2
      have HB2 := Lib.hid (HB.out.trans (hb2.mono HWs))
      have K2 : Hid (GBox w2 w.heap.size ⟨33, s, nx, .slice p n c, .slice (some ⟨b1, o1, none⟩) ns cs, .slice (some ⟨b2, o2, none⟩) ns cw⟩) := Lib.hid (K1.out.under k1z' hb2)
      have HZ2 := Lib.hid (Nat.le_trans hwz hb2.size)
      obtain ⟨p2, c2, hv2, _⟩ := h2.form
      have hl2 : (P.take (k + 1)).length = k + 1 := by rw [List.length_take, HPl.out]; omega
      rw [hl2] at hv2
      subst hv2
      simp only [runsS, Act.put, List.setIfInBounds_toArray, List.set_cons_zero, List.set_cons_succ]
      clear h2 h3 h4 hb2 hg' HOw hI HSf HO K1 HB k1a k1b k1c k1d k1e k1z c0 d0
      go_wp2_with fail
      go_roundw
      case rel => exact ⟨k + 1, p2, c2, by omega, rfl, by go_num, HO2, HB2, K2, HZ2.out⟩
      case measure => simp [intOf]; omega
    · obtain rfl : k = ns := by omega
      have HTk := Lib.hid (show P.take k = P by rw [← HPl.out, List.take_length])
      rw [HTk.out] at HO
      go_wp2_with fail
      go_ret
      exact ⟨_, rfl, OwnI.base HO.out HWs, HB.out⟩
end Go.Proofs.Ytjpfjgoebdogjaa.game

/- The region of a law that keeps what a function returns: a Deal. -/
namespace Go.Proofs.Ytjpfjgoebdogjaa.reg
open Go.RowKit
open cards deal
set_option linter.unusedVariables false

theorem grown_setD (w : World) (g i : Nat) (v : Value) : w.grownBy (w.setCell ⟨g, i, none⟩ v) (some g) :=
  ⟨rfl, rfl, rfl, by simp [World.setCell], fun k hk hne => Below.heap_setCell _ _ _ _ (fun e => hne (by rw [e]))⟩
theorem grown_setsD (g : Nat) : ∀ (vs : List Value) (o : Nat) (w : World), w.grownBy (w.setCells g o vs) (some g)
  | [], o, w => World.grownBy.refl w _
  | v :: r, o, w => World.grownBy.trans (grown_setD w g o v) (grown_setsD g r (o + 1) _)
abbrev zeroD : Dv := ⟨31, 0, 0, .slice none 0 0⟩
/-- A block of another type than cards is no row of cards of the call's own. -/
theorem own_apart {w : World} {B : Nat} {v : Value} {l : List Cd} (h : Own w B v l) {g : Nat} (hb : w.heap[g]? = some zeroD.obj) : ∀ q, v.ownBlock = some q → q ≠ g := by
  rintro q e rfl
  obtain ⟨_, ⟨rfl, _⟩ | ⟨g', cap, cur, rfl, _, hg, _⟩⟩ := h
  · cases e
  · have : q = g' := by injection e with e; exact e.symm
    subst this
    rw [hg] at hb
    injection hb with hb
    injection hb with _ h2 _
    exact absurd h2 (by decide)
theorem own_grown {w w1 : World} {B : Nat} {v : Value} {l : List Cd} {row : Option Nat} (h : Own w B v l) (hg : w.grownBy w1 row) (hne : ∀ q, v.ownBlock = some q → row ≠ some q) : Own w1 B v l :=
  World.ownsRow.kept h hg (by
    cases hv : v.ownBlock with
    | none => simp
    | some g => exact .inr (Ne.symm (hne g hv)))
section
variable {ops : Array Oper} {Q : Exit → Act → World → Prop}
/-- The result is a Deal. -/
theorem region_deal {id : Nat} {a : Act} {W : World} (r : List (Bool × Nat)) (i0 s d0 : Nat) (ts : List (Nat × Tmp × Tmp)) (oa os : Oper) (t : Tmp)
    (hok : chainOk .any ops oa i0 s ts r (Array.replicate ops.size false) = true) (hlen : ops.size = r.length + ts.length + 1 + 1) (has : assigns ops ts = true) (hsel : Region.noSelect ops = true)
    (ha0 : ops[i0]? = some oa) (hga : oa.guard = none) (hd : oa.dst = some d0) (hoa : oa.op = .alloc 31)
    (hs0 : ops[s]? = some os) (hgs : os.guard = none) (hds : os.dst = none) (hos : os.op = .store 31 (.tmp d0) (.tmp t)) (hne : t ≠ d0) (hsz : d0 < a.tmps.size)
    (h : chainA Try.prog ops (BI W) W.heap.size zeroD.obj (fun b I => ∃ (x y : Int) (v : Value), b.tmps.size = a.tmps.size ∧ v.oneCell' = true ∧ b.eval (.tmp t) = dval x y v ∧ ∀ w w' g, I w → W.heap.size ≤ g → w.heap[g]? = some zeroD.obj → w.grownBy w' (some g) → DBox w' g ⟨31, x, y, v⟩ → ∃ a', runsTo ts (b.put (some d0) (ptr g)) a' ∧ Q .normal a' w') r a (BI W)) :
    (Code.region id ops true).wp Try.prog Q a W := by
  refine region_alloc r i0 s d0 ts oa os zeroD.obj [] W.heap.size (BI W) (BI W) 31 (.tmp d0) (.tmp t) (by kernel_rfl) hok hlen has hsel ha0 hga hd ?_ hs0 hgs hds hos (clo_BI W _) (BI.start W) ?_
  · intro a w
    unfold execOp
    rw [hoa]
    kernel_rfl
  · refine chainA_mono ?_ r a _ (fun _ h => h) h
    intro b I hIS ⟨x, y, v, hsb, hv, hm, hk⟩ w g hI0 hg hb
    have hI := hIS w hI0
    have hB : DBox w g zeroD := hb
    have hw : BI W (w.setCells g 0 [.int .i64 x, .int .i64 y, v]) := Below.grown hI (grown_setsD g _ _ _) hI.size (fun k hk => by injection hk with hk; omega)
    refine ⟨#[.int .i64 x, .int .i64 y, v], ?_, ?_, ?_, by kernel_rfl, by (rw [Array.all_eq_true_iff_forall_mem]; intro u hu; simp at hu; rcases hu with rfl | rfl | rfl; rfl; rfl; exact hv), hw, hk w _ g hI0 hg hb (grown_setsD g _ _ _) (DBox.set_ hB x y v)⟩
    · show (b.tmps.setIfInBounds d0 (ptr g)).getD d0 undef = ptr g
      simp [Array.getElem?_setIfInBounds, hsb, hsz]
    · rw [Act.eval_put (by intro d hd he; cases hd; cases he; exact hne rfl)]; exact hm
    · intro j hj
      have hj : j < 3 := hj
      refine ⟨?_, hB.frozen _⟩
      rw [Nat.zero_add, cell_of_row w g _ _ _ _ hB]
      rcases (show j = 0 ∨ j = 1 ∨ j = 2 by omega) with rfl | rfl | rfl <;> rfl
end
end Go.Proofs.Ytjpfjgoebdogjaa.reg

/- A Game copied: the model's. -/
namespace Go.Proofs.Ytjpfjgoebdogjaa.game
open Go.RowKit
open cards deal reg
set_option linter.unusedVariables false

section
variable {ops : Array Oper} {S I : World → Prop} {n0 : Nat} {obj : Obj} {fin : Act → (World → Prop) → Prop}
theorem chain_cell (d : Tmp) {i : Nat} {r : List (Bool × Nat)} {a : Act} {v : Value} {o : Oper} {T : TypeId} {x : Operand} {p : Addr} (ho : ops[i]? = some o) (hd : o.dst = some d) (hg : o.guard = none) (hop : o.op = .load T x) (hx : a.eval x = .pointer (some p))
    (hc : ∀ w, S w → (loadVar T p).run Try.prog w = .ok v w) (hr : chainA Try.prog ops S n0 obj fin r (a.put (some d) v) I) : chainA Try.prog ops S n0 obj fin ((true, i) :: r) a I :=
  ⟨o, v, ho, .inl ⟨wanted_of hg, fun w hw => by
    unfold execOp
    rw [hop]
    simp only [hx]
    have h := hc w hw
    simp [Instr.loadAt, Instr.sureAddr, asAddr, h, Result.andThen]⟩, hd ▸ hr⟩
end

set_option maxRecDepth 100000 in
set_option maxHeartbeats 4000000 in
theorem l8_own (s nx : Int) (l : List Cd) (sc wt : List Int) (p ps pw : Option Addr) (n c ns cs nw cw : Nat) (w : World) (hn : l.length = n) (hs : sc.length = ns) (hw : wt.length = nw) (hl : n ≤ 1000000) (hls : ns ≤ 1000000) (hlw : nw ≤ 1000000) (hs0 : 0 < ns) (hw0 : 0 < nw) (h0 : p = none → c = 0) (hr : RdG w p ps pw l sc wt) :
    Calls Try.prog 28 #[gval s nx (.slice p n c) (.slice ps ns cs) (.slice pw nw cw)] w fun e w' => ∃ vl vs vw, e = .returned (gval s nx vl vs vw) ∧ OwnG w' w.heap.size w'.heap.size vl vs vw l sc wt ∧ Below w.heap.size w w' := by
  obtain ⟨bs, qs, _, hps, _⟩ := hr.b.int (k := 0) (by rw [hs]; exact hs0)
  obtain ⟨bw, qw, _, hpw, _⟩ := hr.c.int (k := 0) (by rw [hw]; exact hw0)
  subst hps
  subst hpw
  have HN := Lib.hid hn
  have HS := Lib.hid hs
  have HW := Lib.hid hw
  have HR0 := Lib.hid hr
  have H0 := Lib.hid h0
  clear hn hs hw hr h0 hs0 hw0
  have K1 : Hid (GBox ((w.alloc (Gv.obj ⟨33, s, nx, .slice p n c, .slice (some ⟨bs, qs, none⟩) ns cs, .slice (some ⟨bw, qw, none⟩) nw cw⟩)).alloc (Gv.obj ⟨33, 0, 0, .slice none 0 0, .slice none 0 0, .slice none 0 0⟩)) w.heap.size ⟨33, s, nx, .slice p n c, .slice (some ⟨bs, qs, none⟩) ns cs, .slice (some ⟨bw, qw, none⟩) nw cw⟩) := Lib.hid ((GBox.newAt rfl rfl).alloc _)
  have K2 : Hid (GBox ((w.alloc (Gv.obj ⟨33, s, nx, .slice p n c, .slice (some ⟨bs, qs, none⟩) ns cs, .slice (some ⟨bw, qw, none⟩) nw cw⟩)).alloc (Gv.obj ⟨33, 0, 0, .slice none 0 0, .slice none 0 0, .slice none 0 0⟩)) (w.heap.size + 1) ⟨33, 0, 0, .slice none 0 0, .slice none 0 0, .slice none 0 0⟩) := Lib.hid (GBox.newAt (by simp) rfl)
  have HB : Hid (Below w.heap.size w ((w.alloc (Gv.obj ⟨33, s, nx, .slice p n c, .slice (some ⟨bs, qs, none⟩) ns cs, .slice (some ⟨bw, qw, none⟩) nw cw⟩)).alloc (Gv.obj ⟨33, 0, 0, .slice none 0 0, .slice none 0 0, .slice none 0 0⟩))) := Lib.hid (((Below.refl _ _).alloc (Nat.le_refl _) _).alloc (by simp) _)
  go_enter Try.func28, Try.ntmps28
  go_upto_region 1 with fail
  generalize ((w.alloc (Gv.obj ⟨33, s, nx, .slice p n c, .slice (some ⟨bs, qs, none⟩) ns cs, .slice (some ⟨bw, qw, none⟩) nw cw⟩)).alloc (Gv.obj ⟨33, 0, 0, .slice none 0 0, .slice none 0 0, .slice none 0 0⟩)) = W0 at K1 K2 HB ⊢
  have HZ0 := Lib.hid (show w.heap.size + 1 + 1 ≤ W0.heap.size from K2.out.lt)
  have HR := Lib.hid (RdG.below HR0.out HB.out)
  have HF : ∀ w', BI W0 w' → w'.cell? ⟨w.heap.size, 0, none⟩ = some (.int .i64 s) ∧ w'.cell? ⟨w.heap.size, 1, none⟩ = some (.int .i64 nx) ∧ w'.cell? ⟨w.heap.size, 2, none⟩ = some (.slice p n c) := fun w' h => ⟨(K1.out.below h).cell.1, (K1.out.below h).cell.2.1, (K1.out.below h).cell.2.2.1⟩
  refine region_deal [(true, 0), (true, 1), (true, 2), (true, 3), (true, 4), (true, 5), (true, 6), (true, 7), (true, 8), (false, 9), (true, 10)] 11 12 3 [] _ _ 14 (by kernel_rfl) rfl rfl (by kernel_rfl) rfl rfl rfl rfl rfl rfl rfl rfl (by decide) (of_decide_eq_true rfl) ?_
  refine chain_pure 4 (v := .pointer (some ⟨w.heap.size, 0, none⟩)) rfl rfl rfl (fun w => by kernel_rfl) ?_
  refine chain_pure 5 (v := .pointer (some ⟨w.heap.size, 0, none⟩)) rfl rfl rfl (fun w => by kernel_rfl) ?_
  refine chain_cell 6 (v := .int .i64 s) rfl rfl rfl rfl (by kernel_rfl) (fun w' h => load_int (HF w' h).1) ?_
  refine chain_pure 7 (v := .pointer (some ⟨w.heap.size, 0, none⟩)) rfl rfl rfl (fun w => by kernel_rfl) ?_
  refine chain_pure 8 (v := .pointer (some ⟨w.heap.size, 1, none⟩)) rfl rfl rfl (fun w => by kernel_rfl) ?_
  refine chain_cell 9 (v := .int .i64 nx) rfl rfl rfl rfl (by kernel_rfl) (fun w' h => load_int (HF w' h).2.1) ?_
  refine chain_pure 10 (v := .pointer (some ⟨w.heap.size, 0, none⟩)) rfl rfl rfl (fun w => by kernel_rfl) ?_
  refine chain_pure 11 (v := .pointer (some ⟨w.heap.size, 2, none⟩)) rfl rfl rfl (fun w => by kernel_rfl) ?_
  refine chain_cell 12 (v := .slice p n c) rfl rfl rfl rfl (by kernel_rfl) (fun w' h => load_slC (HF w' h).2.2) ?_
  refine chain_callE 13 (f := 51) (args := #[.slice p n c]) rfl rfl rfl (fun w => by kernel_rfl) (fun wy hy => (l2_own l p n c wy HN.out hl (Rd.below HR.out.a hy) H0.out).mono ?_)
  rintro e wz ⟨u, rfl, hu, b⟩
  obtain ⟨pu, cu, rfl, -⟩ := hu.1.form
  have hu1 := hu.1
  rw [HN.out] at hu1 ⊢
  refine ⟨_, rfl, b, fun w' => BI W0 w' ∧ Own w' W0.heap.size (.slice pu n cu) l, ⟨fun _ h => h.1, fun _ h => h.1.size, fun _ h => ⟨Below.alloc h.1 h.1.size _, h.2.alloc _⟩⟩, ⟨BI.next hy b, hu1.base hy.size⟩, ?_⟩
  clear b hy hu hu1
  refine chain_pure 14 (v := dval s nx (.slice pu n cu)) rfl rfl rfl (fun w => by kernel_rfl) ?_
  refine ⟨s, nx, .slice pu n cu, by kernel_rfl, rfl, by kernel_rfl, ?_⟩
  clear wy wz
  intro wq W3 g3 hI hg hb hG hD
  refine ⟨_, rfl, ?_⟩
  simp only [Act.put, List.setIfInBounds_toArray, List.set_cons_zero, List.set_cons_succ]
  have b : Below W0.heap.size W0 W3 := Below.grown hI.1 hG hI.1.size (fun k hk => by injection hk with hk; omega)
  have HOF := Lib.hid (own_apart hI.2 hb)
  have HO := Lib.hid (own_grown hI.2 hG (fun q e e2 => own_apart hI.2 hb q e (by injection e2 with e2; exact e2.symm)))
  have K13 := Lib.hid (K1.out.below b)
  have K23 := Lib.hid (K2.out.below b)
  have K33 := Lib.hid hD
  have HG3 := Lib.hid (show w.heap.size + 1 + 1 ≤ g3 from Nat.le_trans HZ0.out hg)
  have HB3 := Lib.hid (HB.out.trans (b.mono HB.out.size))
  have HR3 := Lib.hid (RdG.below HR0.out HB3.out)
  have HZ3 := Lib.hid (Nat.le_trans HZ0.out b.size)
  have HZ03 := Lib.hid b.size
  clear K1 K2 HB HR HF hI hg hb hG hD b
  go_upto_region 2 with fail
  have HF : ∀ w', BI W3 w' → w'.cell? ⟨w.heap.size, 3, none⟩ = some (.slice (some ⟨bs, qs, none⟩) ns cs) ∧ w'.cell? ⟨w.heap.size, 4, none⟩ = some (.slice (some ⟨bw, qw, none⟩) nw cw) ∧ DBox w' g3 ⟨31, s, nx, .slice pu n cu⟩ := fun w' h => ⟨(K13.out.below h).cell.2.2.2.1, (K13.out.below h).cell.2.2.2.2, DBox.below K33.out h⟩
  refine region_jobsB [0, 1, 2, 4, 5] [3, 6] [7, 8] (fun j => if j = 3 then 18 else 21) (fun j v lo hi w' => (∀ g, v.ownBlock = some g → g < hi) ∧ OwnI w' lo v (if j = 3 then sc else wt)) (by kernel_rfl) (by kernel_rfl) rfl (by kernel_rfl) (by decide) (by decide) (fun j v lo hi wa wb h hb => ⟨h.1, h.2.below hb⟩) (fun w' => w'.cell? ⟨w.heap.size, 3, none⟩ = some (.slice (some ⟨bs, qs, none⟩) ns cs) ∧ w'.cell? ⟨w.heap.size, 4, none⟩ = some (.slice (some ⟨bw, qw, none⟩) nw cw) ∧ DBox w' g3 ⟨31, s, nx, .slice pu n cu⟩) HF ?_
  refine j_cell 15 (v := dval s nx (.slice pu n cu)) rfl rfl rfl rfl (by kernel_rfl) (fun w' h => load_deal h.2.2) ?_
  refine j_pure 16 (v := .pointer (some ⟨w.heap.size, 3, none⟩)) rfl rfl rfl (fun w => by kernel_rfl) ?_
  refine j_cell 17 (v := .slice (some ⟨bs, qs, none⟩) ns cs) rfl rfl rfl rfl (by kernel_rfl) (fun w' h => load_slI h.1) ?_
  refine j_pure 19 (v := .pointer (some ⟨w.heap.size, 4, none⟩)) rfl rfl rfl (fun w => by kernel_rfl) ?_
  refine j_cell 20 (v := .slice (some ⟨bw, qw, none⟩) nw cw) rfl rfl rfl rfl (by kernel_rfl) (fun w' h => load_slI h.2.1) ?_
  refine ⟨fun j hj => ?_, fun w' M hI hM hd => ?_⟩
  · simp only [List.mem_cons, List.not_mem_nil, or_false] at hj
    rcases hj with rfl | rfl
    · refine ⟨_, rfl, rfl, rfl, of_decide_eq_true (by kernel_rfl), fun w' hI => ?_⟩
      refine Upon.enter (f := 40) (args := #[.slice (some ⟨bs, qs, none⟩) ns cs]) (by kernel_rfl) ((l1_own sc bs qs ns cs w' HS.out hls (RdG.below HR3.out hI).b).mono ?_)
      rintro e w4 ⟨u, rfl, hu, b⟩
      exact ⟨_, rfl, b, fun g e => (World.ownsRow.lt hu g e).2, by rw [if_pos rfl]; exact hu⟩
    · refine ⟨_, rfl, rfl, rfl, of_decide_eq_true (by kernel_rfl), fun w' hI => ?_⟩
      refine Upon.enter (f := 40) (args := #[.slice (some ⟨bw, qw, none⟩) nw cw]) (by kernel_rfl) ((l1_own wt bw qw nw cw w' HW.out hlw (RdG.below HR3.out hI).c).mono ?_)
      rintro e w4 ⟨u, rfl, hu, b⟩
      exact ⟨_, rfl, b, fun g e => (World.ownsRow.lt hu g e).2, by rw [if_neg (by decide)]; exact hu⟩
  · obtain ⟨⟨v3, a3, b3⟩, e3, l3, m3, r3, c3, h3⟩ := hM 3 (by simp)
    obtain ⟨⟨v5, a5, b5⟩, e5, l5, m5, r5, c5, h5⟩ := hM 6 (by simp)
    have d35 := hd 3 (by simp) 6 (by simp) (by decide) _ _ e3 e5
    simp only [if_true, if_false, Nat.reduceEqDiff] at h3 h5 c3 c5 l3 m3 r3 l5 m5 r5 d35
    have hu := HO.out.below hI
    have hlt := fun g e => (HO.out.span g e).2
    have hsz := HZ03.out
    have HG : OwnG w' W0.heap.size w'.heap.size (.slice pu n cu) v3 v5 l sc wt := by
      refine OwnG.three (a1 := W0.heap.size) (b1 := W3.heap.size) hu h3 h5 hlt c3 c5 (by omega) (by omega) d35 ⟨by omega, by omega, by omega⟩ ⟨by omega, r3, r5⟩
    obtain ⟨pl, cl, ps, cs2, pw, cw2, epl, eps, epw, _⟩ := HG.form
    injection epl with e1 e2 e3'
    subst eps
    subst epw
    simp only [putM, e3, e5]
    have K2' : Hid (GBox w' (w.heap.size + 1) ⟨33, 0, 0, .slice none 0 0, .slice none 0 0, .slice none 0 0⟩) := Lib.hid (K23.out.below hI)
    have HB' := Lib.hid (HB3.out.trans (Below.mono hI HB3.out.size))
    have hS := HF w' hI
    have hS2 : (w'.setCells (w.heap.size + 1) 0 (cvG s nx (.slice pu n cu) (.slice ps sc.length cs2) (.slice pw wt.length cw2)).toList).cell? ⟨w.heap.size, 3, none⟩ = some (.slice (some ⟨bs, qs, none⟩) ns cs) ∧ (w'.setCells (w.heap.size + 1) 0 (cvG s nx (.slice pu n cu) (.slice ps sc.length cs2) (.slice pw wt.length cw2)).toList).cell? ⟨w.heap.size, 4, none⟩ = some (.slice (some ⟨bw, qw, none⟩) nw cw) ∧ DBox (w'.setCells (w.heap.size + 1) 0 (cvG s nx (.slice pu n cu) (.slice ps sc.length cs2) (.slice pw wt.length cw2)).toList) g3 ⟨31, s, nx, .slice pu n cu⟩ := by
      have q := out_sets w' (w.heap.size + 1) (cvG s nx (.slice pu n cu) (.slice ps sc.length cs2) (.slice pw wt.length cw2)).toList
      have k := GBox.out (K13.out.below hI) q (.inl (Nat.lt_succ_self _))
      exact ⟨k.cell.2.2.2.1, k.cell.2.2.2.2, (q.block g3 (DBox.lt hS.2.2) (.inr HG3.out)).trans hS.2.2⟩
    have e1' : (w.heap.size + 1 + 1 : Nat) ≤ W0.heap.size := HZ0.out
    have HB0w := HB'.out.size
    have HGs := Lib.hid (HG.out (out_sets w' (w.heap.size + 1) (cvG s nx (.slice pu n cu) (.slice ps sc.length cs2) (.slice pw wt.length cw2)).toList) (.inr e1'))
    have HK := Lib.hid (gbox_sets K2'.out s nx (.slice pu n cu) (.slice ps sc.length cs2) (.slice pw wt.length cw2))
    have HBs := Lib.hid (Below.out HB'.out (out_sets w' (w.heap.size + 1) (cvG s nx (.slice pu n cu) (.slice ps sc.length cs2) (.slice pw wt.length cw2)).toList) HB0w (by omega))
    have HSz := Lib.hid (out_sets w' (w.heap.size + 1) (cvG s nx (.slice pu n cu) (.slice ps sc.length cs2) (.slice pw wt.length cw2)).toList).size
    refine ⟨_, w', gval s nx (.slice pu n cu) (.slice ps sc.length cs2) (.slice pw wt.length cw2), rfl, rfl, .inl (by kernel_rfl), hS, ?_⟩
    refine ⟨_, w'.setCells (w.heap.size + 1) 0 (cvG s nx (.slice pu n cu) (.slice ps sc.length cs2) (.slice pw wt.length cw2)).toList, undef, rfl, rfl, .inr ⟨exec_storeG K2'.out (p := .tmp 2) (q := .tmp 22) (s := s) (n := nx) (pl := pu) (ps := ps) (pw := pw) (nl := n) (cl := cu) (ns := sc.length) (cs := cs2) (nw := wt.length) (cw := cw2) rfl (by kernel_rfl) (by kernel_rfl), rfl⟩, hS2, ?_⟩
    clear hM hd hI e3 e5 c3 c5 h3 h5 hu HG
    simp only [runsS, Act.put, List.setIfInBounds_toArray, List.set_cons_zero, List.set_cons_succ, if_true, if_false, Nat.reduceEqDiff]
    generalize w'.setCells (w.heap.size + 1) 0 (cvG s nx (.slice pu n cu) (.slice ps sc.length cs2) (.slice pw wt.length cw2)).toList = W at HGs HK HBs HSz ⊢
    go_wp2_with fail
    try simp only [Exit.inBlock, Exit.then]
    refine bodyPost_ret (res_game Try.results28 rfl HK.out) rfl ?_
    exact ⟨_, _, _, rfl, (HGs.out.base (by omega)).top HSz.out, HBs.out⟩
end Go.Proofs.Ytjpfjgoebdogjaa.game

/- Slices of arrays of 3 numbers: comparisons, marks, and marks looked for again. -/
namespace Go.Proofs.Ytjpfjgoebdogjaa.cards
open Go.RowKit
set_option linter.unusedVariables false

def same_A3 (x y : A3) : Bool := decide (x.a = y.a ∧ x.b = y.b ∧ x.c = y.c)
theorem same_A3_self (x : A3) : same_A3 x x = true := by simp [same_A3]
theorem same_A3_n0 {x y : A3} (h : (x.a != y.a) = true) : false = same_A3 x y := by unfold same_A3; simp at h ⊢; omega
theorem same_A3_n1 {x y : A3} (h : (x.b != y.b) = true) : false = same_A3 x y := by unfold same_A3; simp at h ⊢; omega
theorem same_A3_n2 {x y : A3} (h : (x.c != y.c) = true) : false = same_A3 x y := by unfold same_A3; simp at h ⊢; omega
theorem same_A3_y {x y : A3} (h0 : (x.a != y.a) = false) (h1 : (x.b != y.b) = false) (h2 : (x.c != y.c) = false) : true = same_A3 x y := by unfold same_A3; simp at h0 h1 h2 ⊢; omega
set_option maxRecDepth 100000 in
set_option maxHeartbeats 1000000 in
theorem eq_A3 (x y : A3) (w : World) :
    Calls Try.prog 62 #[x.val, y.val] w fun e w' => e = .returned (.bool (same_A3 x y)) ∧ Below w.heap.size w w' := by
  go_enter Try.func62, Try.ntmps62
  go_wp2
  refine wp_loop_rounds 4 ?_
  repeat (any_goals (rw [rounds_succ]; go_wp2; try (go_quiet (fail); go_wp2)))
  all_goals go_ret
  all_goals refine ⟨ret_bool ?_, by repeat (first | with_reducible exact Below.refl _ _ | with_reducible exact HB.out | with_reducible apply Below.drew | with_reducible apply bdN | with_reducible refine Below.alloc ?_ (by first | exact Nat.le_refl _ | with_reducible exact HB.out.size | omega | (simp; done) | (simp; omega) | (have := HB.out.size; simp at *; omega)) _)⟩
  all_goals first | exact same_A3_n0 ‹_› | exact same_A3_n1 ‹_› | exact same_A3_n2 ‹_› | exact same_A3_y ‹_› ‹_› ‹_›

def mkA3 (k i : Nat) : A3 := ⟨(k : Int) + 3 * (i : Int), (k : Int) + 3 * (i : Int) + 1, (k : Int) + 3 * (i : Int) + 1 + 1⟩
def mksA3 (k : Nat) (l : List A3) (i : Nat) : List A3 := (List.range i).map (mkA3 k) ++ l.drop i
theorem mksA3_zero (k : Nat) (l : List A3) : mksA3 k l 0 = l := by simp [mksA3]
theorem mksA3_len {k : Nat} {l : List A3} {n i : Nat} (h : l.length = n) (hi : i ≤ n) : (mksA3 k l i).length = n := by simp [mksA3]; omega
theorem mksA3_set {k : Nat} {l : List A3} {n i : Nat} (h : l.length = n) (hi : i < n) : (mksA3 k l i).set i (mkA3 k i) = mksA3 k l (i + 1) := by
  unfold mksA3
  rw [List.set_append_right _ _ (by simp), List.range_succ, List.map_append, List.append_assoc]
  have e : i - ((List.range i).map (mkA3 k)).length = 0 := by simp
  rw [e, List.drop_eq_getElem_cons (by omega)]
  rfl
def markedA3 (k n : Nat) : List A3 := (List.range n).map (mkA3 k)
theorem mksA3_all {k : Nat} {l : List A3} {n : Nat} (h : l.length = n) : mksA3 k l n = markedA3 k n := by simp [mksA3, markedA3, ← h]
theorem markedA3_len (k n : Nat) : (markedA3 k n).length = n := by simp [markedA3]
theorem markedA3_at {k n i : Nat} (h : i < n) : (markedA3 k n)[i]? = some (mkA3 k i) := by simp [markedA3, h]

end Go.Proofs.Ytjpfjgoebdogjaa.cards

/- Claims that the law makes, and slices of numbers between two blocks. -/
namespace Go.Proofs.Ytjpfjgoebdogjaa.game
open Go.RowKit
open cards deal
set_option linter.unusedVariables false

/-! Slices of numbers between two blocks. -/
structure OwnS (w : World) (B C : Nat) (v : Value) (l : List Int) : Prop where
  o : OwnI w B v l
  c : ∀ g, v.ownBlock = some g → g < C
section
variable {w w1 : World} {B C : Nat} {v : Value} {l : List Int}
theorem OwnS.below (h : OwnS w B C v l) (b : Below w.heap.size w w1) : OwnS w1 B C v l := ⟨h.o.below b, h.c⟩
theorem OwnS.alloc (h : OwnS w B C v l) (o : Obj) : OwnS (w.alloc o) B C v l := ⟨h.o.alloc o, h.c⟩
theorem OwnS.drew (h : OwnS w B C v l) : OwnS w.drew B C v l := ⟨h.o.drew, h.c⟩
theorem OwnS.drewN (h : OwnS w B C v l) (k : Nat) : OwnS (w.drewN k) B C v l := ⟨h.o.drewN k, h.c⟩
theorem OwnS.out {a b : Nat} (h : OwnS w B C v l) (o : Out a b w w1) (hd : C ≤ a ∨ b ≤ B) : OwnS w1 B C v l := ⟨OwnI.out h.o o (fun g e => by have := h.c g e; have := (h.o.span g e).1; omega), h.c⟩
theorem OwnS.base {B' : Nat} (h : OwnS w B C v l) (hB : B' ≤ B) : OwnS w B' C v l := ⟨OwnI.base h.o hB, h.c⟩
theorem OwnS.rd {p : Option Addr} {n c : Nat} (h : OwnS w B C (.slice p n c) l) : Rd w p (ints l) := h.o.rd
theorem OwnS.of (h : OwnI w B v l) : OwnS w B w.heap.size v l := ⟨h, fun g e => (h.span g e).2⟩
end
set_option maxHeartbeats 400000 in
theorem mark_intsS (l : List Int) (v : Value) (B C k0 n : Nat) (w : World) (hn : l.length = n) (hl : k0 + n ≤ 1000000000) (hC : C ≤ w.heap.size) (hB : B ≤ C) (ho : OwnS w B C v l) :
    Calls Try.prog 21 #[v, .int .i64 k0] w fun e w' => e = .returned (.int .i64 (k0 + n : Nat)) ∧ OwnS w' B C v (markedI k0 n) ∧ Out B C w w' :=
  (mark_ints l v B k0 n w hn hl (by omega) ho.o).mono fun e w' ⟨he, h1, h2⟩ => ⟨he, ⟨h1, ho.c⟩, Out.grown h2 (fun g e => ⟨(ho.o.span g e).1, ho.c g e⟩)⟩

/-! Claims. -/
set_option maxRecDepth 100000 in
theorem to_a3 (x : A3) (w : World) :
    Calls Try.prog 58 #[x.val] w fun e w' => e = .returned x.val ∧ Below w.heap.size w w' := by
  go_enter Try.func58, Try.ntmps58
  go_wp2
  go_rounds 4
  exact bodyPost_ret (v := x.val) (by simp [results, Try.results58, go_sem]) rfl ⟨rfl, by repeat (first | with_reducible exact Below.refl _ _ | with_reducible exact HB.out | with_reducible apply Below.drew | with_reducible apply bdN | with_reducible refine Below.alloc ?_ (by first | exact Nat.le_refl _ | with_reducible exact HB.out.size | omega | (simp; done) | (simp; omega) | (have := HB.out.size; simp at *; omega)) _ | with_reducible refine Below.setCell ?_ (by first | exact Nat.le_refl _ | with_reducible exact HB.out.size | omega | (simp; done) | (simp; omega) | (have := HB.out.size; simp at *; omega)) _)⟩
/-- A block that holds a claim. -/
structure Cv where
  t : TypeId
  c : Cd
abbrev Cv.obj (x : Cv) : Obj := .cells #[.int .i64 x.c.a, .int .i64 x.c.b, .int .i64 x.c.c, .int .i64 x.c.d] x.t
def CBox (w : World) (g : Nat) (x : Cv) : Prop := w.heap[g]? = some x.obj
section
variable {w w1 : World} {g : Nat} {x : Cv}
theorem CBox.lt (h : CBox w g x) : g < w.heap.size := (Array.getElem?_eq_some_iff.1 h).1
theorem CBox.newAt {o : Obj} (h : w.heap.size = g) (ho : o = x.obj) : CBox (w.alloc o) g x := by subst h; subst ho; exact heap_alloc_new w _
theorem CBox.alloc (h : CBox w g x) (o : Obj) : CBox (w.alloc o) g x := (Below.heap_alloc w o g h.lt).trans h
theorem CBox.drew (h : CBox w g x) : CBox w.drew g x := h
theorem CBox.drewN (h : CBox w g x) (n : Nat) : CBox (w.drewN n) g x := h
theorem CBox.below (h : CBox w g x) (b : Below w.heap.size w w1) : CBox w1 g x := (b.block g h.lt).trans h
theorem CBox.cell (h : CBox w g x) : w.cell? ⟨g, 0, none⟩ = some (.int .i64 x.c.a) ∧ w.cell? ⟨g, 1, none⟩ = some (.int .i64 x.c.b) ∧ w.cell? ⟨g, 2, none⟩ = some (.int .i64 x.c.c) ∧ w.cell? ⟨g, 3, none⟩ = some (.int .i64 x.c.d) := by
  unfold CBox at h
  exact ⟨by rw [cell_of_row w g 0 _ _ _ h]; rfl, by rw [cell_of_row w g 1 _ _ _ h]; rfl, by rw [cell_of_row w g 2 _ _ _ h]; rfl, by rw [cell_of_row w g 3 _ _ _ h]; rfl⟩
theorem CBox.frozen (h : CBox w g x) : ∀ i, w.frozen? ⟨g, i, none⟩ = false := fun i => frozen_of_row w g i _ _ h
theorem CBox.out {a b : Nat} (h : CBox w g x) (o : Out a b w w1) (hg : g < a ∨ b ≤ g) : CBox w1 g x := (o.block g h.lt hg).trans h
theorem CBox.far (h : CBox w g x) {g2 : Nat} (hp : g ≠ g2) (o : Nat) (u : Value) : CBox (w.setCell ⟨g2, o, none⟩ u) g x := (Below.heap_setCell w ⟨g2, o, none⟩ u g hp).trans h
end
theorem load_claim {w : World} {g : Nat} {c : Cd} (h : CBox w g ⟨61, c⟩) : (loadVar 61 ⟨g, 0, none⟩).run Try.prog w = .ok c.val w := by
  obtain ⟨h0, h1, h2, h3⟩ := h.cell
  simp [loadVar, go_sem, h0, h1, h2, h3]
theorem res_claim {fn : Func} {i : Tmp} (hf : fn.results = #[.cell i 61]) {tmps : Array Value} {w : World} {g : Nat} {c : Cd} (ht : tmps.getD i undef = .pointer (some ⟨g, 0, none⟩)) (h : CBox w g ⟨61, c⟩) :
    (results fn tmps).run Try.prog w = .ok c.val w := by
  have hl := load_claim h
  rw [Array.getD_eq_getD_getElem?] at ht
  simp only [results, hf]
  simp [Sem.run_bind, ht, asAddr, hl]
theorem CBox.set_ {w : World} {g : Nat} {t : TypeId} {x : Cd} (h : CBox w g ⟨t, x⟩) (y : Cd) : CBox ((((w.setCell ⟨g, 0, none⟩ (.int .i64 y.a)).setCell ⟨g, 1, none⟩ (.int .i64 y.b)).setCell ⟨g, 2, none⟩ (.int .i64 y.c)).setCell ⟨g, 3, none⟩ (.int .i64 y.d)) g ⟨t, y⟩ := by
  unfold CBox at h ⊢
  rw [heap_setCell_same _ g 3 _ _ _ (heap_setCell_same _ g 2 _ _ _ (heap_setCell_same _ g 1 _ _ _ (heap_setCell_same w g 0 _ _ _ h)))]
  rfl

set_option maxRecDepth 100000 in
set_option maxHeartbeats 1000000 in
theorem to_claim (x : Cd) (w : World) :
    Calls Try.prog 32 #[x.val] w fun e w' => e = .returned x.val ∧ Below w.heap.size w w' := by
  have K1 : Hid (CBox (((w.alloc (Cv.obj ⟨65, x⟩)).alloc (Cv.obj ⟨61, zero⟩)).alloc (Cv.obj ⟨61, zero⟩)) w.heap.size ⟨65, x⟩) := Lib.hid (((CBox.newAt rfl rfl).alloc _).alloc _)
  have K2 : Hid (CBox (((w.alloc (Cv.obj ⟨65, x⟩)).alloc (Cv.obj ⟨61, zero⟩)).alloc (Cv.obj ⟨61, zero⟩)) (w.heap.size + 1) ⟨61, zero⟩) := Lib.hid ((CBox.newAt (by simp) rfl).alloc _)
  have K3 : Hid (CBox (((w.alloc (Cv.obj ⟨65, x⟩)).alloc (Cv.obj ⟨61, zero⟩)).alloc (Cv.obj ⟨61, zero⟩)) (w.heap.size + 1 + 1) ⟨61, zero⟩) := Lib.hid (CBox.newAt (by simp) rfl)
  have HB : Hid (Below w.heap.size w (((w.alloc (Cv.obj ⟨65, x⟩)).alloc (Cv.obj ⟨61, zero⟩)).alloc (Cv.obj ⟨61, zero⟩))) := Lib.hid ((((Below.refl _ _).alloc (Nat.le_refl _) _).alloc (by simp) _).alloc (by simp; omega) _)
  go_enter Try.func32, Try.ntmps32
  go_upto_region 2 with fail
  generalize (((w.alloc (Cv.obj ⟨65, x⟩)).alloc (Cv.obj ⟨61, zero⟩)).alloc (Cv.obj ⟨61, zero⟩)) = W at K1 K2 K3 HB ⊢
  obtain ⟨k1a, k1b, k1c, k1d⟩ := K1.out.cell
  obtain ⟨k3a, k3b, k3c, k3d⟩ := K3.out.cell
  have k3f := K3.out.frozen
  have k3z := K3.out.lt
  go_upto_region 3 with fail
  obtain ⟨W1, hW1⟩ : ∃ W1, W1 = W.setCell ⟨w.heap.size + 1 + 1, 0, none⟩ (.int .i64 x.a) := ⟨_, rfl⟩
  have K1' := Lib.hid (K1.out.far (show w.heap.size ≠ w.heap.size + 1 + 1 by omega) 0 (.int .i64 x.a))
  have K2' := Lib.hid (K2.out.far (show w.heap.size + 1 ≠ w.heap.size + 1 + 1 by omega) 0 (.int .i64 x.a))
  have K3' : Hid (CBox (W.setCell ⟨w.heap.size + 1 + 1, 0, none⟩ (.int .i64 x.a)) (w.heap.size + 1 + 1) ⟨61, ⟨x.a, 0, 0, 0⟩⟩) := Lib.hid (by have h := K3.out; unfold CBox at h ⊢; rw [heap_setCell_same W _ 0 _ _ _ h]; rfl)
  have HB' := Lib.hid (HB.out.setCell (p := ⟨w.heap.size + 1 + 1, 0, none⟩) (show w.heap.size ≤ w.heap.size + 1 + 1 by omega) (.int .i64 x.a))
  rw [← hW1] at K1' K2' K3' HB' ⊢
  clear hW1 K1 K2 K3 HB k1a k1b k1c k1d k3a k3b k3c k3d k3f k3z
  obtain ⟨k1a, k1b, k1c, k1d⟩ := K1'.out.cell
  go_wp2_with fail
  refine (to_a3 ⟨x.b, x.c, x.d⟩ _).mono ?_
  rintro e w1 ⟨rfl, b⟩
  have K2 := Lib.hid (K2'.out.below b)
  have K3 := Lib.hid (K3'.out.below b)
  have HB := Lib.hid (chain0 HB'.out b)
  clear b K1' K2' K3' HB' k1a k1b k1c k1d
  obtain ⟨k3a, k3b, k3c, k3d⟩ := K3.out.cell
  have k3f := K3.out.frozen
  have k3z := K3.out.lt
  have k2f := K2.out.frozen
  have k2z := K2.out.lt
  obtain ⟨k2a, k2b, k2c, k2d⟩ := K2.out.cell
  go_wp2_with fail
  try simp only [Exit.inBlock, Exit.then]
  refine bodyPost_ret (res_claim Try.results32 rfl (CBox.set_ (((K2.out.far (show w.heap.size + 1 ≠ w.heap.size + 1 + 1 by omega) _ _).far (show w.heap.size + 1 ≠ w.heap.size + 1 + 1 by omega) _ _).far (show w.heap.size + 1 ≠ w.heap.size + 1 + 1 by omega) _ _) x)) rfl ?_
  exact ⟨rfl, by repeat (first | with_reducible exact Below.refl _ _ | with_reducible exact HB.out | with_reducible apply Below.drew | with_reducible apply bdN | with_reducible refine Below.alloc ?_ (by first | exact Nat.le_refl _ | with_reducible exact HB.out.size | omega | (simp; done) | (simp; omega) | (have := HB.out.size; simp at *; omega)) _ | with_reducible refine Below.setCell ?_ (by first | exact Nat.le_refl _ | with_reducible exact HB.out.size | omega | (simp; done) | (simp; omega) | (have := HB.out.size; simp at *; omega)) _)⟩

/-- The call owns a slice of the claims of a list, made from block B on, up to C. -/
structure OwnC (w : World) (B C : Nat) (v : Value) (l : List Cd) : Prop where
  o : w.ownsRow B 61 4 v l.length (flat l)
  c : ∀ g, v.ownBlock = some g → g < C
theorem OwnC.form {w : World} {B C : Nat} {v : Value} {l : List Cd} (h : OwnC w B C v l) : ∃ p c, v = .slice p l.length c ∧ l.length ≤ c ∧ Rd w p (flat l) ∧
    (0 < l.length → ∃ g, p = some ⟨g, 0, none⟩ ∧ B ≤ g ∧ g < w.heap.size ∧ ∀ k, w.frozen? ⟨g, k, none⟩ = false) := by
  have h' := h.o
  obtain ⟨_, ⟨rfl, h0⟩ | ⟨g, cap, cur, rfl, hB, hg, hnc, _⟩⟩ := h.o
  · exact ⟨none, 0, by rw [h0], by omega, fun hp => by rw [flat_len] at hp; omega, fun hp => by omega⟩
  · have hlt : g < w.heap.size := (Array.getElem?_eq_some_iff.1 hg).1
    refine ⟨_, cap, rfl, hnc, fun hp => ⟨g, 0, rfl, hlt, fun j x hx => ?_⟩, fun hp => ⟨g, rfl, hB, hlt, fun k => World.ownsRow.frozenAt h' k⟩⟩
    have hj : j < (flat l).length := (List.getElem?_eq_some_iff.1 hx).1
    rw [flat_len] at hj
    rw [Nat.zero_add, World.ownsRow.cellAt h' j (by omega)]
    exact hx
section
variable {w w1 : World} {B C : Nat} {v : Value} {l : List Cd}
theorem OwnC.below (h : OwnC w B C v l) (hb : Below w.heap.size w w1) : OwnC w1 B C v l :=
  ⟨World.ownsRow.kept (row := none) h.o ⟨hb.os, hb.tape, hb.output, hb.size, fun j hj _ => hb.block j hj⟩ (by cases hv : v.ownBlock <;> simp), h.c⟩
theorem OwnC.alloc (h : OwnC w B C v l) (o : Obj) : OwnC (w.alloc o) B C v l := h.below ((Below.refl _ _).alloc (Nat.le_refl _) o)
theorem OwnC.drew (h : OwnC w B C v l) : OwnC w.drew B C v l := ⟨h.o, h.c⟩
theorem OwnC.drewN (h : OwnC w B C v l) (k : Nat) : OwnC (w.drewN k) B C v l := ⟨h.o, h.c⟩
theorem OwnC.span (h : OwnC w B C v l) : ∀ g, v.ownBlock = some g → B ≤ g ∧ g < w.heap.size := World.ownsRow.lt h.o
theorem OwnC.out {a b : Nat} (h : OwnC w B C v l) (o : Out a b w w1) (hd : C ≤ a ∨ b ≤ B) : OwnC w1 B C v l := ⟨ownsRow_out h.o o (fun g e => by have := h.c g e; have := (h.span g e).1; omega), h.c⟩
theorem OwnC.base {B' : Nat} (h : OwnC w B C v l) (hB : B' ≤ B) : OwnC w B' C v l := by
  obtain ⟨⟨hl, h0 | ⟨g, cap, cur, e, hb, r⟩⟩, hc⟩ := h
  · exact ⟨⟨hl, .inl h0⟩, hc⟩
  · exact ⟨⟨hl, .inr ⟨g, cap, cur, e, Nat.le_trans hB hb, r⟩⟩, hc⟩
theorem OwnC.rd {p : Option Addr} {n c : Nat} (h : OwnC w B C (.slice p n c) l) : Rd w p (flat l) := by
  obtain ⟨p', c', e, _, hr, _⟩ := h.form
  injection e with e1 e2 e3
  rw [e1]; exact hr
theorem OwnC.nil0 {p : Option Addr} {n c : Nat} (h : OwnC w B C (.slice p n c) l) : p = none → c = 0 := fun e => by
  subst e
  obtain ⟨⟨_, ⟨e, _⟩ | ⟨g, cap, cur, e, _⟩⟩, _⟩ := h
  · injection e
  · injection e with e1 e2 e3; cases e1
end
/-- A claim is stored into the row, cell by cell. -/
theorem OwnC.store {w : World} {B C g n c : Nat} {l : List Cd} (hn : l.length = n) (h : OwnC w B C (.slice (some ⟨g, 0, none⟩) n c) l) (i : Nat) (hi : i < n) (x : Cd) :
    OwnC ((((w.setCell ⟨g, i * 4, none⟩ (.int .i64 x.a)).setCell ⟨g, i * 4 + 1, none⟩ (.int .i64 x.b)).setCell ⟨g, i * 4 + 2, none⟩ (.int .i64 x.c)).setCell ⟨g, i * 4 + 3, none⟩ (.int .i64 x.d)) B C (.slice (some ⟨g, 0, none⟩) n c) (l.set i x) := by
  subst hn
  obtain ⟨ho, hc⟩ := h
  refine ⟨?_, hc⟩
  have h1 := (((World.ownsRow.stored (World.ownsRow.stored (World.ownsRow.stored (World.ownsRow.stored ho (i * 4) (.int .i64 x.a)).1 (i * 4 + 1) (.int .i64 x.b)).1 (i * 4 + 2) (.int .i64 x.c)).1 (i * 4 + 3) (.int .i64 x.d)).1))
  rw [flat_set l i x hi] at h1
  rw [List.length_set]
  exact h1
theorem OwnC.slots {w : World} {B C g n c : Nat} {l : List Cd} (hn : l.length = n) (h : OwnC w B C (.slice (some ⟨g, 0, none⟩) n c) l) (i : Nat) (hi : i < n) :
    ∃ y : Cd, l[i]? = some y ∧ w.cell? ⟨g, i * 4, none⟩ = some (.int .i64 y.a) ∧ w.cell? ⟨g, i * 4 + 1, none⟩ = some (.int .i64 y.b) ∧ w.cell? ⟨g, i * 4 + 2, none⟩ = some (.int .i64 y.c) ∧ w.cell? ⟨g, i * 4 + 3, none⟩ = some (.int .i64 y.d) ∧
      (∀ k, w.frozen? ⟨g, k, none⟩ = false) ∧ B ≤ g ∧ g < w.heap.size := by
  subst hn
  obtain ⟨p, c', e, _, hr, hg⟩ := h.form
  obtain ⟨g', eg, hB, hlt, hf⟩ := hg (by omega)
  obtain ⟨b, o, y, ep, hb, hy, d0, d1, d2, d3⟩ := hr.card hi
  injection e with e1 e2 e3
  rw [← e1] at eg ep
  injection eg with eg
  injection eg with eg
  subst eg
  injection ep with ep
  injection ep with eb eo
  subst eb; subst eo
  simp only [Nat.zero_add] at d0 d1 d2 d3
  exact ⟨y, hy, d0, d1, d2, d3, hf, hB, hlt⟩
theorem claim_info : ((Try.prog).info? 61).map (fun i => (i.zero, i.size, i.bytes)) = some (some (.agg #[.int .i64 0, .int .i64 0, .int .i64 0, .int .i64 0]), 4, 32) := by kernel_rfl
theorem madeC (n : Nat) (hn : n ≤ 1000000000) (w : World) : (Instr.makeSlice 38 (.int .i64 n) (.int .i64 n)).run Try.prog w = .ok (.slice (some ⟨w.heap.size, 0, none⟩) n n) (w.alloc (.cells (madeCells (Value.agg #[.int .i64 0, .int .i64 0, .int .i64 0, .int .i64 0]).cells (n * 4)) 61)) := by
  obtain ⟨i, hi, hz, hs, hb⟩ := info_parts claim_info
  have h := run_make (P := Try.prog) w 38 61 i _ Try.underlying38 hi hz .i64 .i64 n n (by omega) (by omega) (by rw [hb]; omega) (by omega)
  rw [hs] at h
  simpa using h
theorem own_madeC (w : World) (n : Nat) (hn : n ≤ 1000000000) : OwnC (w.alloc (.cells (madeCells (Value.agg #[.int .i64 0, .int .i64 0, .int .i64 0, .int .i64 0]).cells (n * 4)) 61)) w.heap.size (w.heap.size + 1) (.slice (some ⟨w.heap.size, 0, none⟩) n n) (List.replicate n zero) := by
  refine ⟨?_, fun g e => by have e2 : some w.heap.size = some g := e; injection e2 with e2; omega⟩
  rw [List.length_replicate]
  refine ⟨by rw [flat_len, List.length_replicate]; omega, .inr ⟨w.heap.size, n, _, rfl, Nat.le_refl _, heap_alloc_new w _, Nat.le_refl _, by simp only [maxLen]; omega, size_madeCells _ _, ?_⟩⟩
  rw [made_zero, flat_rep, List.take_of_length_le (by simp)]

set_option maxRecDepth 100000 in
set_option maxHeartbeats 2000000 in
theorem to_claims (l : List Cd) (p : Option Addr) (n c : Nat) (w : World) (hn : l.length = n) (hl : n ≤ 1000000000) (hr : Rd w p (flat l)) :
    Calls Try.prog 10 #[.slice p n c] w fun e w' => ∃ p' c', e = .returned (.slice p' n c') ∧ OwnC w' w.heap.size w'.heap.size (.slice p' n c') l ∧ Rd w' p' (flat l) ∧ n ≤ c' ∧ Below w.heap.size w w' := by
  have HN := Lib.hid hn
  have HR := Lib.hid hr
  have hmk := madeC n hl
  clear hn hr
  go_enter Try.func10, Try.ntmps10
  go_wp2_with fail
  clear hmk
  go_loopw [4] (fun i wr => ∃ k : Nat, k ≤ n ∧ i = .int .i64 k ∧ Hid (OwnC wr w.heap.size (w.heap.size + 1) (.slice (some ⟨w.heap.size, 0, none⟩) n n) (cards.part l n k)) ∧ Hid (Below w.heap.size w wr) ∧ w.heap.size + 1 ≤ wr.heap.size) (fun i _ => n - (intOf i).toNat)
  case atStart => exact ⟨0, Nat.zero_le _, rfl, by rw [part_zero]; exact own_madeC w n hl, (Below.refl _ _).alloc (Nat.le_refl _) _, by simp⟩
  case round =>
    obtain ⟨k, hk, rfl, HO, HB, hz1⟩ := hrel
    by_cases hlt : k < n
    · obtain ⟨b, o, x, rfl, hb, hx, c0, c1, c2, c3⟩ := (HR.out.below HB.out).card (k := k) (by rw [HN.out]; exact hlt)
      have HX := Lib.hid hx
      have b0 : (0 : Int) ≤ (k : Int) := by omega
      have b1 : (k : Int) < (n : Int) := by omega
      clear hx
      have HZ1 := Lib.hid hz1
      clear hz1
      go_wp2_with fail
      refine ((to_claim x _)).mono ?_
      rintro e w1 ⟨rfl, b⟩
      have Sw1 := Lib.hid b.size
      have HB := Lib.hid (chain0 (w := w) (by repeat (first | with_reducible exact Below.refl _ _ | with_reducible exact HB.out | with_reducible apply Below.drew | with_reducible apply bdN | with_reducible refine Below.alloc ?_ (by first | exact Nat.le_refl _ | with_reducible exact HB.out.size | omega | (simp; done) | (simp; omega) | (have := HB.out.size; simp at *; omega)) _ | with_reducible refine Below.setCell ?_ (by first | exact Nat.le_refl _ | with_reducible exact HB.out.size | omega | (simp; done) | (simp; omega) | (have := HB.out.size; simp at *; omega)) _)) b)
      have HO := Lib.hid (OwnC.below (by repeat (first | with_reducible exact HO.out | with_reducible apply OwnC.drewN | with_reducible apply OwnC.drew | with_reducible apply OwnC.alloc)) b)
      clear b
      clear c0 c1 c2 c3
      have HP := Lib.hid (part_set (n := n) HN.out hlt HX.out)
      obtain ⟨y, hy, d0, d1, d2, d3, hf, hB, hg⟩ := HO.out.slots (part_len HN.out hk) k hlt
      have hz := HB.out.size
      clear hy
      have HS := Lib.hid (HO.out.store (part_len HN.out hk) k hlt x)
      rw [HP.out] at HS
      clear HO
      go_wp2_with fail
      go_roundw
      case rel => exact ⟨k + 1, by omega, by go_num, HS, Lib.hid (by repeat (first | with_reducible exact Below.refl _ _ | with_reducible exact HB.out | with_reducible apply Below.drew | with_reducible apply bdN | with_reducible refine Below.alloc ?_ (by first | exact Nat.le_refl _ | with_reducible exact HB.out.size | omega | (simp; done) | (simp; omega) | (have := HB.out.size; simp at *; omega)) _ | with_reducible refine Below.setCell ?_ (by first | exact Nat.le_refl _ | with_reducible exact HB.out.size | omega | (simp; done) | (simp; omega) | (have := HB.out.size; simp at *; omega)) _)), by have h1 := Sw1.out; have h2 := HZ1.out; simp [World.setCell] at h1 ⊢; omega⟩
      case measure => simp [intOf]; omega
    · obtain rfl : k = n := by omega
      rw [part_all HN.out] at HO
      have HOf : Hid (OwnC wr w.heap.size wr.heap.size (.slice (some ⟨w.heap.size, 0, none⟩) k k) l) := Lib.hid ⟨HO.out.o, fun g e => Nat.lt_of_lt_of_le (HO.out.c g e) hz1⟩
      go_wp2_with fail
      go_ret
      exact ⟨_, _, rfl, HOf.out, HOf.out.rd, Nat.le_refl _, HB.out⟩
end Go.Proofs.Ytjpfjgoebdogjaa.game

