/- Merged texts: Je, Jg, Jh. -/
import Derived.Test.YteccbcbijfcpmaaGMakeClaim1
import Derived.Deep.LoopGhost
import Derived.Deep.CutBlock
import Derived.Test.YteccbcbijfcpmaaQn
import Derived.Test.YteccbcbijfcpmaaGMakeClaim0
/- A claim is made: the program's. -/
namespace Go.Proofs.Yteccbcbijfcpmaa.game
open Go.RowKit
open cards deal reg
set_option linter.unusedVariables false

set_option maxRecDepth 100000 in
set_option maxHeartbeats 4000000 in
theorem impl_mk (s : Int) (a0 : Nat) (l : List Cd) (sc wt : List Int) (cl : Cd) (p ps pw : Option Addr) (n c ns cs nw cw : Nat) (w : World) (ho : (Gm.mk s a0 l sc wt).okP) (hn : l.length = n) (hs : sc.length = ns) (hw : wt.length = nw) (h0 : p = none → c = 0) (hr : RdG w p ps pw l sc wt) (hc : wfc cl) :
    Calls Try.prog 72 #[gval s a0 (.slice p n c) (.slice ps ns cs) (.slice pw nw cw), cl.val] w fun e w' => ∃ vl vs vw, e = .returned (.tuple #[gval s (made ⟨s, a0, l, sc, wt⟩ cl).nx vl vs vw, .int .i64 (madeK ⟨s, a0, l, sc, wt⟩ cl)]) ∧ OwnG w' w.heap.size w'.heap.size vl vs vw (made ⟨s, a0, l, sc, wt⟩ cl).l (made ⟨s, a0, l, sc, wt⟩ cl).sc (made ⟨s, a0, l, sc, wt⟩ cl).wr ∧ Below w.heap.size w w' := by
  have hd0 : (Dl.mk s a0 l).okP := ho.d
  have hn81 : n ≤ 81 := by rw [← hn]; exact hd0.len81
  have hns1 : 0 < ns := by rw [← hs]; exact ho.p1
  have hns4 : ns ≤ 4 := by rw [← hs]; exact ho.p4
  have hnw : nw = ns := by rw [← hw, ← hs]; exact ho.eq
  subst hnw
  have HO := Lib.hid ho
  have HN := Lib.hid hn
  have HS := Lib.hid hs
  have HW := Lib.hid hw
  have HR0 := Lib.hid hr
  have H0 := Lib.hid h0
  have HD0 := Lib.hid hd0
  have HU := Lib.hid (up_ok hd0)
  have HUs := Lib.hid (up_s hd0)
  have HMk : Hid (made ⟨s, a0, l, sc, wt⟩ cl = ⟨(madeD ⟨s, a0, l, sc, wt⟩ cl).s, (madeD ⟨s, a0, l, sc, wt⟩ cl).nx, (madeD ⟨s, a0, l, sc, wt⟩ cl).l, madeS ⟨s, a0, l, sc, wt⟩ cl, madeW ⟨s, a0, l, sc, wt⟩ cl⟩) := Lib.hid rfl
  have HK : Hid (madeK ⟨s, a0, l, sc, wt⟩ cl = kind (up ⟨s, a0, l⟩).l nw cl) := Lib.hid (by rw [← hs]; rfl)
  have HMD : Hid (madeD ⟨s, a0, l, sc, wt⟩ cl = if madeK ⟨s, a0, l, sc, wt⟩ cl = 1 then takeD (up ⟨s, a0, l⟩) (plc cl) else up ⟨s, a0, l⟩) := Lib.hid rfl
  have HMS : Hid (madeS ⟨s, a0, l, sc, wt⟩ cl = if madeK ⟨s, a0, l, sc, wt⟩ cl = 1 then bump sc cl.a.toNat else sc) := Lib.hid rfl
  have HMW : Hid (madeW ⟨s, a0, l, sc, wt⟩ cl = if madeK ⟨s, a0, l, sc, wt⟩ cl = 2 then bump wt cl.a.toNat else wt) := Lib.hid rfl
  obtain ⟨G, hG⟩ : ∃ G, made ⟨s, a0, l, sc, wt⟩ cl = G := ⟨_, rfl⟩
  rw [hG] at HMk ⊢
  clear hG
  obtain ⟨kd, hkd⟩ : ∃ kd, madeK ⟨s, a0, l, sc, wt⟩ cl = kd := ⟨_, rfl⟩
  rw [hkd] at HK HMD HMS HMW ⊢
  clear hkd
  obtain ⟨MD, hMD⟩ : ∃ MD, madeD ⟨s, a0, l, sc, wt⟩ cl = MD := ⟨_, rfl⟩
  obtain ⟨MS, hMS⟩ : ∃ MS, madeS ⟨s, a0, l, sc, wt⟩ cl = MS := ⟨_, rfl⟩
  obtain ⟨MW, hMW⟩ : ∃ MW, madeW ⟨s, a0, l, sc, wt⟩ cl = MW := ⟨_, rfl⟩
  rw [hMD, hMS, hMW] at HMk
  rw [hMD] at HMD
  rw [hMS] at HMS
  rw [hMW] at HMW
  clear hMD hMS hMW
  obtain ⟨U, hU⟩ : ∃ U, up ⟨s, a0, l⟩ = U := ⟨_, rfl⟩
  rw [hU] at HU HUs HK HMD
  have HUe := Lib.hid hU
  have HCp := Lib.hid (fun w h => copy_game s a0 l sc wt p ps pw n c nw cs nw cw w hn hs hw (by omega) (by omega) (by omega) h)
  clear ho hn hs hw hr h0 hd0 hU
  have K3 : Hid (CBox (((w.alloc (Gv.obj ⟨27, s, a0, .slice p n c, .slice ps nw cs, .slice pw nw cw⟩)).alloc (Cv.obj ⟨45, cl⟩)).alloc (Gv.obj ⟨27, 0, 0, .slice none 0 0, .slice none 0 0, .slice none 0 0⟩)) (w.heap.size + 1) ⟨45, cl⟩) := Lib.hid ((CBox.newAt (by simp) rfl).alloc _)
  have K4 : Hid (GBox (((w.alloc (Gv.obj ⟨27, s, a0, .slice p n c, .slice ps nw cs, .slice pw nw cw⟩)).alloc (Cv.obj ⟨45, cl⟩)).alloc (Gv.obj ⟨27, 0, 0, .slice none 0 0, .slice none 0 0, .slice none 0 0⟩)) (w.heap.size + 1 + 1) ⟨27, 0, 0, .slice none 0 0, .slice none 0 0, .slice none 0 0⟩) := Lib.hid (GBox.newAt (by simp) rfl)
  have K2 : Hid (GBox (((w.alloc (Gv.obj ⟨27, s, a0, .slice p n c, .slice ps nw cs, .slice pw nw cw⟩)).alloc (Cv.obj ⟨45, cl⟩)).alloc (Gv.obj ⟨27, 0, 0, .slice none 0 0, .slice none 0 0, .slice none 0 0⟩)) w.heap.size ⟨27, s, a0, .slice p n c, .slice ps nw cs, .slice pw nw cw⟩) := Lib.hid (((GBox.newAt rfl rfl).alloc _).alloc _)
  have HB : Hid (Below w.heap.size w (((w.alloc (Gv.obj ⟨27, s, a0, .slice p n c, .slice ps nw cs, .slice pw nw cw⟩)).alloc (Cv.obj ⟨45, cl⟩)).alloc (Gv.obj ⟨27, 0, 0, .slice none 0 0, .slice none 0 0, .slice none 0 0⟩))) := Lib.hid ((((Below.refl _ _).alloc (Nat.le_refl _) _).alloc (by simp) _).alloc (by simp; omega) _)
  go_enter Try.func72, Try.ntmps72
  go_upto_region 1 with fail
  generalize (((w.alloc (Gv.obj ⟨27, s, a0, .slice p n c, .slice ps nw cs, .slice pw nw cw⟩)).alloc (Cv.obj ⟨45, cl⟩)).alloc (Gv.obj ⟨27, 0, 0, .slice none 0 0, .slice none 0 0, .slice none 0 0⟩)) = W0 at K2 K3 K4 HB ⊢
  have HZ0 := Lib.hid (show w.heap.size + 1 + 1 + 1 ≤ W0.heap.size from K4.out.lt)
  obtain ⟨k2a, k2b, k2c, k2d, k2e⟩ := K2.out.cell
  have k2z := K2.out.lt
  have HR := Lib.hid (RdG.below HR0.out HB.out)
  go_wp2_with fail
  refine (HCp.out _ (by repeat (first | with_reducible exact HR.out | with_reducible apply RdG.drewN | with_reducible apply RdG.drew | with_reducible apply RdG.alloc))).mono ?_
  rintro e w1 ⟨vl, vs, vw, rfl, hg1, b⟩
  have HB1 := Lib.hid (chain0 (w := w) HB.out b)
  have K31 := Lib.hid (K3.out.below b)
  have K41 := Lib.hid (K4.out.below b)
  have HG1 := Lib.hid (hg1.base (show w.heap.size + 1 + 1 + 1 ≤ W0.heap.size from HZ0.out))
  have HZ1 := Lib.hid (Nat.le_trans HZ0.out b.size)
  clear b hg1 k2a k2b k2c k2d k2e k2z HB K2 K3 K4 HR
  obtain ⟨gs, cs1, rfl⟩ := own_ps HG1.out.o2 HS.out hns1
  obtain ⟨gw, cw1, rfl⟩ := own_ps HG1.out.o3 HW.out hns1
  obtain ⟨p1, c1, rfl, -⟩ := HG1.out.o1.form
  rw [HN.out] at HG1 ⊢
  have K6 : Hid (GBox (w1.alloc (Gv.obj ⟨27, s, a0, .slice p1 n c1, .slice (some ⟨gs, 0, none⟩) nw cs1, .slice (some ⟨gw, 0, none⟩) nw cw1⟩)) w1.heap.size ⟨27, s, a0, .slice p1 n c1, .slice (some ⟨gs, 0, none⟩) nw cs1, .slice (some ⟨gw, 0, none⟩) nw cw1⟩) := Lib.hid (GBox.newAt rfl rfl)
  have HB2 := Lib.hid (HB1.out.alloc HB1.out.size (Gv.obj ⟨27, s, a0, .slice p1 n c1, .slice (some ⟨gs, 0, none⟩) nw cs1, .slice (some ⟨gw, 0, none⟩) nw cw1⟩))
  have K32 := Lib.hid (K31.out.alloc (Gv.obj ⟨27, s, a0, .slice p1 n c1, .slice (some ⟨gs, 0, none⟩) nw cs1, .slice (some ⟨gw, 0, none⟩) nw cw1⟩))
  have K42 := Lib.hid (K41.out.alloc (Gv.obj ⟨27, s, a0, .slice p1 n c1, .slice (some ⟨gs, 0, none⟩) nw cs1, .slice (some ⟨gw, 0, none⟩) nw cw1⟩))
  have HG2 := Lib.hid (HG1.out.alloc (Gv.obj ⟨27, s, a0, .slice p1 n c1, .slice (some ⟨gs, 0, none⟩) nw cs1, .slice (some ⟨gw, 0, none⟩) nw cw1⟩))
  obtain ⟨g6, hg6⟩ : ∃ g6, w1.heap.size = g6 := ⟨_, rfl⟩
  rw [hg6] at K6
  have HG6 := Lib.hid (show w.heap.size + 1 + 1 + 1 ≤ g6 by have := HZ1.out; omega)
  go_upto_block 0 with fail
  try rw [hg6]
  have HC6 := Lib.hid (show g6 ≤ (w1.alloc (Gv.obj ⟨27, s, a0, .slice p1 n c1, .slice (some ⟨gs, 0, none⟩) nw cs1, .slice (some ⟨gw, 0, none⟩) nw cw1⟩)).heap.size by have := K6.out.lt; omega)
  rw [hg6] at HG2
  clear hg6
  have HG3 := Lib.hid (HG2.out.top HC6.out)
  clear HG1 K31 K41 HB1 HG2 HZ1 HZ0
  generalize (w1.alloc (Gv.obj ⟨27, s, a0, .slice p1 n c1, .slice (some ⟨gs, 0, none⟩) nw cs1, .slice (some ⟨gw, 0, none⟩) nw cw1⟩)) = W2 at K6 HB2 K32 K42 HG3 HC6 ⊢
  clear w1
  go_cut [] from 8 (fun wx => ∃ (a : Nat) (m : Nat) (L : List Cd) (p2 : Option Addr) (c2 : Nat), m ≤ 81 ∧ a ≤ 81 ∧ L.length = m ∧ Hid (U = ⟨s, a, L⟩) ∧ Hid (GBox wx g6 ⟨27, s, a, .slice p2 m c2, .slice (some ⟨gs, 0, none⟩) nw cs1, .slice (some ⟨gw, 0, none⟩) nw cw1⟩) ∧ Hid (OwnG wx (w.heap.size + 1 + 1 + 1) wx.heap.size (.slice p2 m c2) (.slice (some ⟨gs, 0, none⟩) nw cs1) (.slice (some ⟨gw, 0, none⟩) nw cw1) L sc wt) ∧ Hid (Below w.heap.size w wx) ∧ Hid (CBox wx (w.heap.size + 1) ⟨45, cl⟩) ∧ Hid (GBox wx (w.heap.size + 1 + 1) ⟨27, 0, 0, .slice none 0 0, .slice none 0 0, .slice none 0 0⟩))
  case first =>
    go_wp2_with fail
    go_loopg [] 81 (fun k wr => ∃ (a : Nat) (m : Nat) (L : List Cd) (p2 : Option Addr) (c2 : Nat), m ≤ 81 ∧ a ≤ 81 ∧ 81 - a ≤ k ∧ L.length = m ∧ Hid (up ⟨s, a, L⟩ = U) ∧ Hid ((Dl.mk s a L).okP) ∧ Hid (GBox wr g6 ⟨27, s, a, .slice p2 m c2, .slice (some ⟨gs, 0, none⟩) nw cs1, .slice (some ⟨gw, 0, none⟩) nw cw1⟩) ∧ Hid (OwnG wr (w.heap.size + 1 + 1 + 1) wr.heap.size (.slice p2 m c2) (.slice (some ⟨gs, 0, none⟩) nw cs1) (.slice (some ⟨gw, 0, none⟩) nw cw1) L sc wt) ∧ Hid (Below w.heap.size w wr) ∧ Hid (CBox wr (w.heap.size + 1) ⟨45, cl⟩) ∧ Hid (GBox wr (w.heap.size + 1 + 1) ⟨27, 0, 0, .slice none 0 0, .slice none 0 0, .slice none 0 0⟩))
    case atStart => exact ⟨a0, n, l, p1, c1, hn81, (by have := HD0.out.2.1.2; simp only at this; omega), by omega, HN.out, HUe, HD0, K6, HG3, HB2, K32, K42⟩
    case round =>
      clear K6 HB2 K32 K42 HG3 HC6
      obtain ⟨a, m, L, p2, c2, hm, ha, hk, hLm, HUe2, HOk, K6, HG, HB, K3, K4⟩ := hrel
      obtain ⟨k6a, k6b, k6c, k6d, k6e⟩ := K6.out.cell
      have k6z := K6.out.lt
      have k6f := K6.out.frozen
      have HLm := Lib.hid hLm
      have HR := Lib.hid (Own.rd HG.out.o1)
      have HZr : Hid (SzA wr wr.heap.size) := Lib.hid ⟨Nat.le_refl _⟩
      have HSt := Lib.hid (fun w h => is_stuck s a L p2 m c2 w hLm hm h HOk.out.cards)
      have HOv := Lib.hid (fun w h => is_over s a L p2 m c2 w hLm hm h HOk.out.cards)
      have HN0 := Lib.hid (Own.nil0 HG.out.o1)
      clear hLm
      cases hst : stuckD ⟨s, a, L⟩
      · have HE := Lib.hid (HUe2.out.symm.trans (up_stop (fun h => by rw [hst] at h; exact absurd h.1 (by decide))))
        rw [hst] at HSt
        clear hst HOv
        go_wp2_with fail
        refine ((HSt.out _ (by repeat (first | with_reducible exact HR.out | with_reducible apply Rd.drewN | with_reducible apply Rd.drew | with_reducible apply Rd.alloc)))).mono ?_
        rintro e w3 ⟨rfl, b⟩
        have Sw3 := Lib.hid b.size
        have HB := Lib.hid (chain0 (w := w) (by repeat (first | with_reducible exact Below.refl _ _ | with_reducible exact HB.out | with_reducible apply Below.drew | with_reducible apply bdN | with_reducible refine Below.alloc ?_ (by first | exact Nat.le_refl _ | with_reducible exact HB.out.size | omega | (simp; done) | (simp; omega) | (have := HB.out.size; simp at *; omega)) _ | with_reducible refine Below.setCell ?_ (by first | exact Nat.le_refl _ | with_reducible exact HB.out.size | omega | (simp; done) | (simp; omega) | (have := HB.out.size; simp at *; omega)) _)) b)
        have HZr := Lib.hid (SzA.below (by repeat (first | with_reducible exact HZr.out | with_reducible apply SzA.drewN | with_reducible apply SzA.drew | with_reducible apply SzA.alloc)) b)
        have HG := Lib.hid (OwnG.below (by repeat (first | with_reducible exact HG.out | with_reducible apply OwnG.drewN | with_reducible apply OwnG.drew | with_reducible apply OwnG.alloc)) b)
        have HR := Lib.hid (Rd.below (by repeat (first | with_reducible exact HR.out | with_reducible apply Rd.drewN | with_reducible apply Rd.drew | with_reducible apply Rd.alloc)) b)
        have K6 : Hid (GBox _ (g6) (⟨27, s, a, .slice p2 m c2, .slice (some ⟨gs, 0, none⟩) nw cs1, .slice (some ⟨gw, 0, none⟩) nw cw1⟩)) := Lib.hid (GBox.below (by repeat (first | with_reducible exact K6.out | with_reducible apply GBox.drewN | with_reducible apply GBox.drew | (with_reducible refine GBox.newAt ?_ ?_ <;> first | (simp; done) | rfl) | with_reducible apply GBox.alloc)) b)
        have K3 : Hid (CBox _ (w.heap.size + 1) (⟨45, cl⟩)) := Lib.hid (CBox.below (by repeat (first | with_reducible exact K3.out | with_reducible apply CBox.drewN | with_reducible apply CBox.drew | (with_reducible refine CBox.newAt ?_ ?_ <;> first | (simp; done) | rfl) | with_reducible apply CBox.alloc)) b)
        have K4 : Hid (GBox _ (w.heap.size + 1 + 1) (⟨27, 0, 0, .slice none 0 0, .slice none 0 0, .slice none 0 0⟩)) := Lib.hid (GBox.below (by repeat (first | with_reducible exact K4.out | with_reducible apply GBox.drewN | with_reducible apply GBox.drew | (with_reducible refine GBox.newAt ?_ ?_ <;> first | (simp; done) | rfl) | with_reducible apply GBox.alloc)) b)
        try clear k6a k6b k6c k6d k6e k6z
        have k6z := K6.out.lt
        obtain ⟨k6a, k6b, k6c, k6d, k6e⟩ := K6.out.cell
        try clear k6f
        have k6f := K6.out.frozen
        try clear k3a k3b k3c k3d k3z
        have k3z := K3.out.lt
        obtain ⟨k3a, k3b, k3c, k3d⟩ := K3.out.cell
        try clear k4a k4b k4c k4d k4e k4z
        have k4z := K4.out.lt
        obtain ⟨k4a, k4b, k4c, k4d, k4e⟩ := K4.out.cell
        clear b
        go_wp2_with fail
        go_meet
        case rel => exact ⟨a, m, L, p2, c2, hm, ha, HLm.out, HE, K6, HG.out.top HZr.out.h, HB, K3, K4⟩
      · cases hov : overD ⟨s, a, L⟩
        · have HGo := Lib.hid (over_iff HOk.out hst hov)
          have hup := up_go HOk.out ⟨hst, HGo.out⟩
          have hnx := lay3_nx HOk.out HGo.out
          have hlok := lay_ok (n := 3) HOk.out (by omega)
          have HLy := Lib.hid (fun w h => impl_lay s a 3 L p2 m c2 w HOk.out.1 ha ⟨by omega, by omega⟩ HLm.out (by omega) h HN0.out)
          obtain ⟨L2, hL2⟩ : ∃ L2, (layD ⟨s, a, L⟩ 3).l = L2 := ⟨_, rfl⟩
          obtain ⟨a2, ha2⟩ : ∃ a2 : Nat, (layD ⟨s, a, L⟩ 3).nx = (a2 : Int) := ⟨(layD ⟨s, a, L⟩ 3).nx.toNat, by have := hlok.2.1.1; omega⟩
          have hD2 : layD ⟨s, a, L⟩ 3 = ⟨s, a2, L2⟩ := by rw [← ha2, ← hL2]; rfl
          obtain ⟨m2, hm2⟩ : ∃ m2, L2.length = m2 := ⟨_, rfl⟩
          rw [hL2, ha2] at HLy
          rw [hD2] at hup hlok
          rw [ha2] at hnx
          have hm81 : m2 ≤ 81 := by rw [← hm2]; exact hlok.len81
          have HOk2 := Lib.hid hlok
          have HUp2 := Lib.hid (hup.symm.trans HUe2.out)
          have HLm2 := Lib.hid hm2
          have HNx := Lib.hid hnx
          rw [hst] at HSt
          rw [hov] at HOv
          clear hst hov hup hnx hlok hL2 ha2 hD2 hm2 HGo
          go_wp2_with fail
          refine ((HSt.out _ (by repeat (first | with_reducible exact HR.out | with_reducible apply Rd.drewN | with_reducible apply Rd.drew | with_reducible apply Rd.alloc)))).mono ?_
          rintro e w3 ⟨rfl, b⟩
          have Sw3 := Lib.hid b.size
          have HB := Lib.hid (chain0 (w := w) (by repeat (first | with_reducible exact Below.refl _ _ | with_reducible exact HB.out | with_reducible apply Below.drew | with_reducible apply bdN | with_reducible refine Below.alloc ?_ (by first | exact Nat.le_refl _ | with_reducible exact HB.out.size | omega | (simp; done) | (simp; omega) | (have := HB.out.size; simp at *; omega)) _ | with_reducible refine Below.setCell ?_ (by first | exact Nat.le_refl _ | with_reducible exact HB.out.size | omega | (simp; done) | (simp; omega) | (have := HB.out.size; simp at *; omega)) _)) b)
          have HZr := Lib.hid (SzA.below (by repeat (first | with_reducible exact HZr.out | with_reducible apply SzA.drewN | with_reducible apply SzA.drew | with_reducible apply SzA.alloc)) b)
          have HG := Lib.hid (OwnG.below (by repeat (first | with_reducible exact HG.out | with_reducible apply OwnG.drewN | with_reducible apply OwnG.drew | with_reducible apply OwnG.alloc)) b)
          have HR := Lib.hid (Rd.below (by repeat (first | with_reducible exact HR.out | with_reducible apply Rd.drewN | with_reducible apply Rd.drew | with_reducible apply Rd.alloc)) b)
          have K6 : Hid (GBox _ (g6) (⟨27, s, a, .slice p2 m c2, .slice (some ⟨gs, 0, none⟩) nw cs1, .slice (some ⟨gw, 0, none⟩) nw cw1⟩)) := Lib.hid (GBox.below (by repeat (first | with_reducible exact K6.out | with_reducible apply GBox.drewN | with_reducible apply GBox.drew | (with_reducible refine GBox.newAt ?_ ?_ <;> first | (simp; done) | rfl) | with_reducible apply GBox.alloc)) b)
          have K3 : Hid (CBox _ (w.heap.size + 1) (⟨45, cl⟩)) := Lib.hid (CBox.below (by repeat (first | with_reducible exact K3.out | with_reducible apply CBox.drewN | with_reducible apply CBox.drew | (with_reducible refine CBox.newAt ?_ ?_ <;> first | (simp; done) | rfl) | with_reducible apply CBox.alloc)) b)
          have K4 : Hid (GBox _ (w.heap.size + 1 + 1) (⟨27, 0, 0, .slice none 0 0, .slice none 0 0, .slice none 0 0⟩)) := Lib.hid (GBox.below (by repeat (first | with_reducible exact K4.out | with_reducible apply GBox.drewN | with_reducible apply GBox.drew | (with_reducible refine GBox.newAt ?_ ?_ <;> first | (simp; done) | rfl) | with_reducible apply GBox.alloc)) b)
          try clear k6a k6b k6c k6d k6e k6z
          have k6z := K6.out.lt
          obtain ⟨k6a, k6b, k6c, k6d, k6e⟩ := K6.out.cell
          try clear k6f
          have k6f := K6.out.frozen
          try clear k3a k3b k3c k3d k3z
          have k3z := K3.out.lt
          obtain ⟨k3a, k3b, k3c, k3d⟩ := K3.out.cell
          try clear k4a k4b k4c k4d k4e k4z
          have k4z := K4.out.lt
          obtain ⟨k4a, k4b, k4c, k4d, k4e⟩ := K4.out.cell
          clear b
          go_wp2_with fail
          refine ((HOv.out _ (by repeat (first | with_reducible exact HR.out | with_reducible apply Rd.drewN | with_reducible apply Rd.drew | with_reducible apply Rd.alloc)))).mono ?_
          rintro e w4 ⟨rfl, b⟩
          have Sw4 := Lib.hid b.size
          have HB := Lib.hid (chain0 (w := w) (by repeat (first | with_reducible exact Below.refl _ _ | with_reducible exact HB.out | with_reducible apply Below.drew | with_reducible apply bdN | with_reducible refine Below.alloc ?_ (by first | exact Nat.le_refl _ | with_reducible exact HB.out.size | omega | (simp; done) | (simp; omega) | (have := HB.out.size; simp at *; omega)) _ | with_reducible refine Below.setCell ?_ (by first | exact Nat.le_refl _ | with_reducible exact HB.out.size | omega | (simp; done) | (simp; omega) | (have := HB.out.size; simp at *; omega)) _)) b)
          have HZr := Lib.hid (SzA.below (by repeat (first | with_reducible exact HZr.out | with_reducible apply SzA.drewN | with_reducible apply SzA.drew | with_reducible apply SzA.alloc)) b)
          have HG := Lib.hid (OwnG.below (by repeat (first | with_reducible exact HG.out | with_reducible apply OwnG.drewN | with_reducible apply OwnG.drew | with_reducible apply OwnG.alloc)) b)
          have HR := Lib.hid (Rd.below (by repeat (first | with_reducible exact HR.out | with_reducible apply Rd.drewN | with_reducible apply Rd.drew | with_reducible apply Rd.alloc)) b)
          have K6 : Hid (GBox _ (g6) (⟨27, s, a, .slice p2 m c2, .slice (some ⟨gs, 0, none⟩) nw cs1, .slice (some ⟨gw, 0, none⟩) nw cw1⟩)) := Lib.hid (GBox.below (by repeat (first | with_reducible exact K6.out | with_reducible apply GBox.drewN | with_reducible apply GBox.drew | (with_reducible refine GBox.newAt ?_ ?_ <;> first | (simp; done) | rfl) | with_reducible apply GBox.alloc)) b)
          have K3 : Hid (CBox _ (w.heap.size + 1) (⟨45, cl⟩)) := Lib.hid (CBox.below (by repeat (first | with_reducible exact K3.out | with_reducible apply CBox.drewN | with_reducible apply CBox.drew | (with_reducible refine CBox.newAt ?_ ?_ <;> first | (simp; done) | rfl) | with_reducible apply CBox.alloc)) b)
          have K4 : Hid (GBox _ (w.heap.size + 1 + 1) (⟨27, 0, 0, .slice none 0 0, .slice none 0 0, .slice none 0 0⟩)) := Lib.hid (GBox.below (by repeat (first | with_reducible exact K4.out | with_reducible apply GBox.drewN | with_reducible apply GBox.drew | (with_reducible refine GBox.newAt ?_ ?_ <;> first | (simp; done) | rfl) | with_reducible apply GBox.alloc)) b)
          try clear k6a k6b k6c k6d k6e k6z
          have k6z := K6.out.lt
          obtain ⟨k6a, k6b, k6c, k6d, k6e⟩ := K6.out.cell
          try clear k6f
          have k6f := K6.out.frozen
          try clear k3a k3b k3c k3d k3z
          have k3z := K3.out.lt
          obtain ⟨k3a, k3b, k3c, k3d⟩ := K3.out.cell
          try clear k4a k4b k4c k4d k4e k4z
          have k4z := K4.out.lt
          obtain ⟨k4a, k4b, k4c, k4d, k4e⟩ := K4.out.cell
          clear b
          go_wp2_with fail
          refine (HLy.out _ (by repeat (first | with_reducible exact HR.out | with_reducible apply Rd.drewN | with_reducible apply Rd.drew | with_reducible apply Rd.alloc))).mono ?_
          rintro e w5 ⟨u, rfl, hu, b⟩
          obtain ⟨p3, c3, rfl, -⟩ := hu.form
          rw [HLm2.out] at hu ⊢
          have HGn := Lib.hid (OwnG.newL HG.out b hu (by have := HG.out.o2.span gs rfl; have := HG.out.c2 gs rfl; omega) HZr.out.h)
          have Sw5 := Lib.hid b.size
          have HB := Lib.hid (chain0 (w := w) (by repeat (first | with_reducible exact Below.refl _ _ | with_reducible exact HB.out | with_reducible apply Below.drew | with_reducible apply bdN | with_reducible refine Below.alloc ?_ (by first | exact Nat.le_refl _ | with_reducible exact HB.out.size | omega | (simp; done) | (simp; omega) | (have := HB.out.size; simp at *; omega)) _ | with_reducible refine Below.setCell ?_ (by first | exact Nat.le_refl _ | with_reducible exact HB.out.size | omega | (simp; done) | (simp; omega) | (have := HB.out.size; simp at *; omega)) _)) b)
          have HZr := Lib.hid (SzA.below (by repeat (first | with_reducible exact HZr.out | with_reducible apply SzA.drewN | with_reducible apply SzA.drew | with_reducible apply SzA.alloc)) b)
          have HG := Lib.hid (OwnG.below (by repeat (first | with_reducible exact HG.out | with_reducible apply OwnG.drewN | with_reducible apply OwnG.drew | with_reducible apply OwnG.alloc)) b)
          have HR := Lib.hid (Rd.below (by repeat (first | with_reducible exact HR.out | with_reducible apply Rd.drewN | with_reducible apply Rd.drew | with_reducible apply Rd.alloc)) b)
          have K6 : Hid (GBox _ (g6) (⟨27, s, a, .slice p2 m c2, .slice (some ⟨gs, 0, none⟩) nw cs1, .slice (some ⟨gw, 0, none⟩) nw cw1⟩)) := Lib.hid (GBox.below (by repeat (first | with_reducible exact K6.out | with_reducible apply GBox.drewN | with_reducible apply GBox.drew | (with_reducible refine GBox.newAt ?_ ?_ <;> first | (simp; done) | rfl) | with_reducible apply GBox.alloc)) b)
          have K3 : Hid (CBox _ (w.heap.size + 1) (⟨45, cl⟩)) := Lib.hid (CBox.below (by repeat (first | with_reducible exact K3.out | with_reducible apply CBox.drewN | with_reducible apply CBox.drew | (with_reducible refine CBox.newAt ?_ ?_ <;> first | (simp; done) | rfl) | with_reducible apply CBox.alloc)) b)
          have K4 : Hid (GBox _ (w.heap.size + 1 + 1) (⟨27, 0, 0, .slice none 0 0, .slice none 0 0, .slice none 0 0⟩)) := Lib.hid (GBox.below (by repeat (first | with_reducible exact K4.out | with_reducible apply GBox.drewN | with_reducible apply GBox.drew | (with_reducible refine GBox.newAt ?_ ?_ <;> first | (simp; done) | rfl) | with_reducible apply GBox.alloc)) b)
          try clear k6a k6b k6c k6d k6e k6z
          have k6z := K6.out.lt
          obtain ⟨k6a, k6b, k6c, k6d, k6e⟩ := K6.out.cell
          try clear k6f
          have k6f := K6.out.frozen
          try clear k3a k3b k3c k3d k3z
          have k3z := K3.out.lt
          obtain ⟨k3a, k3b, k3c, k3d⟩ := K3.out.cell
          try clear k4a k4b k4c k4d k4e k4z
          have k4z := K4.out.lt
          obtain ⟨k4a, k4b, k4c, k4d, k4e⟩ := K4.out.cell
          clear b
          clear hu HG
          have hds := deal_sets K6.out s a2 (.slice p3 m2 c3)
          have HG5 := Lib.hid ((HGn.out.off hds.2 (offG HGn.out K6.out rfl)).top hds.2.size)
          have K65 := Lib.hid hds.1
          have HB5 := Lib.hid (game.Below.by_ HB.out hds.2 HB.out.size (by have := HG6.out; omega))
          have K35 := Lib.hid (K3.out.grown hds.2 (by have := HG6.out; omega))
          have K45 := Lib.hid (K4.out.grown hds.2 (by have := HG6.out; omega))
          clear hds
          go_wp2_with fail
          go_roundg (81 - a2)
          case measure => have := HNx.out; omega
          case rel => exact ⟨a2, m2, L2, p3, c3, hm81, (by have := HNx.out; omega), Nat.le_refl _, HLm2.out, HUp2, HOk2, K65, HG5, HB5, K35, K45⟩
        · have HE := Lib.hid (HUe2.out.symm.trans (up_stop (fun h => over_no hov h.2)))
          rw [hst] at HSt
          rw [hov] at HOv
          clear hst hov
          go_wp2_with fail
          refine ((HSt.out _ (by repeat (first | with_reducible exact HR.out | with_reducible apply Rd.drewN | with_reducible apply Rd.drew | with_reducible apply Rd.alloc)))).mono ?_
          rintro e w3 ⟨rfl, b⟩
          have Sw3 := Lib.hid b.size
          have HB := Lib.hid (chain0 (w := w) (by repeat (first | with_reducible exact Below.refl _ _ | with_reducible exact HB.out | with_reducible apply Below.drew | with_reducible apply bdN | with_reducible refine Below.alloc ?_ (by first | exact Nat.le_refl _ | with_reducible exact HB.out.size | omega | (simp; done) | (simp; omega) | (have := HB.out.size; simp at *; omega)) _ | with_reducible refine Below.setCell ?_ (by first | exact Nat.le_refl _ | with_reducible exact HB.out.size | omega | (simp; done) | (simp; omega) | (have := HB.out.size; simp at *; omega)) _)) b)
          have HZr := Lib.hid (SzA.below (by repeat (first | with_reducible exact HZr.out | with_reducible apply SzA.drewN | with_reducible apply SzA.drew | with_reducible apply SzA.alloc)) b)
          have HG := Lib.hid (OwnG.below (by repeat (first | with_reducible exact HG.out | with_reducible apply OwnG.drewN | with_reducible apply OwnG.drew | with_reducible apply OwnG.alloc)) b)
          have HR := Lib.hid (Rd.below (by repeat (first | with_reducible exact HR.out | with_reducible apply Rd.drewN | with_reducible apply Rd.drew | with_reducible apply Rd.alloc)) b)
          have K6 : Hid (GBox _ (g6) (⟨27, s, a, .slice p2 m c2, .slice (some ⟨gs, 0, none⟩) nw cs1, .slice (some ⟨gw, 0, none⟩) nw cw1⟩)) := Lib.hid (GBox.below (by repeat (first | with_reducible exact K6.out | with_reducible apply GBox.drewN | with_reducible apply GBox.drew | (with_reducible refine GBox.newAt ?_ ?_ <;> first | (simp; done) | rfl) | with_reducible apply GBox.alloc)) b)
          have K3 : Hid (CBox _ (w.heap.size + 1) (⟨45, cl⟩)) := Lib.hid (CBox.below (by repeat (first | with_reducible exact K3.out | with_reducible apply CBox.drewN | with_reducible apply CBox.drew | (with_reducible refine CBox.newAt ?_ ?_ <;> first | (simp; done) | rfl) | with_reducible apply CBox.alloc)) b)
          have K4 : Hid (GBox _ (w.heap.size + 1 + 1) (⟨27, 0, 0, .slice none 0 0, .slice none 0 0, .slice none 0 0⟩)) := Lib.hid (GBox.below (by repeat (first | with_reducible exact K4.out | with_reducible apply GBox.drewN | with_reducible apply GBox.drew | (with_reducible refine GBox.newAt ?_ ?_ <;> first | (simp; done) | rfl) | with_reducible apply GBox.alloc)) b)
          try clear k6a k6b k6c k6d k6e k6z
          have k6z := K6.out.lt
          obtain ⟨k6a, k6b, k6c, k6d, k6e⟩ := K6.out.cell
          try clear k6f
          have k6f := K6.out.frozen
          try clear k3a k3b k3c k3d k3z
          have k3z := K3.out.lt
          obtain ⟨k3a, k3b, k3c, k3d⟩ := K3.out.cell
          try clear k4a k4b k4c k4d k4e k4z
          have k4z := K4.out.lt
          obtain ⟨k4a, k4b, k4c, k4d, k4e⟩ := K4.out.cell
          clear b
          go_wp2_with fail
          refine ((HOv.out _ (by repeat (first | with_reducible exact HR.out | with_reducible apply Rd.drewN | with_reducible apply Rd.drew | with_reducible apply Rd.alloc)))).mono ?_
          rintro e w4 ⟨rfl, b⟩
          have Sw4 := Lib.hid b.size
          have HB := Lib.hid (chain0 (w := w) (by repeat (first | with_reducible exact Below.refl _ _ | with_reducible exact HB.out | with_reducible apply Below.drew | with_reducible apply bdN | with_reducible refine Below.alloc ?_ (by first | exact Nat.le_refl _ | with_reducible exact HB.out.size | omega | (simp; done) | (simp; omega) | (have := HB.out.size; simp at *; omega)) _ | with_reducible refine Below.setCell ?_ (by first | exact Nat.le_refl _ | with_reducible exact HB.out.size | omega | (simp; done) | (simp; omega) | (have := HB.out.size; simp at *; omega)) _)) b)
          have HZr := Lib.hid (SzA.below (by repeat (first | with_reducible exact HZr.out | with_reducible apply SzA.drewN | with_reducible apply SzA.drew | with_reducible apply SzA.alloc)) b)
          have HG := Lib.hid (OwnG.below (by repeat (first | with_reducible exact HG.out | with_reducible apply OwnG.drewN | with_reducible apply OwnG.drew | with_reducible apply OwnG.alloc)) b)
          have HR := Lib.hid (Rd.below (by repeat (first | with_reducible exact HR.out | with_reducible apply Rd.drewN | with_reducible apply Rd.drew | with_reducible apply Rd.alloc)) b)
          have K6 : Hid (GBox _ (g6) (⟨27, s, a, .slice p2 m c2, .slice (some ⟨gs, 0, none⟩) nw cs1, .slice (some ⟨gw, 0, none⟩) nw cw1⟩)) := Lib.hid (GBox.below (by repeat (first | with_reducible exact K6.out | with_reducible apply GBox.drewN | with_reducible apply GBox.drew | (with_reducible refine GBox.newAt ?_ ?_ <;> first | (simp; done) | rfl) | with_reducible apply GBox.alloc)) b)
          have K3 : Hid (CBox _ (w.heap.size + 1) (⟨45, cl⟩)) := Lib.hid (CBox.below (by repeat (first | with_reducible exact K3.out | with_reducible apply CBox.drewN | with_reducible apply CBox.drew | (with_reducible refine CBox.newAt ?_ ?_ <;> first | (simp; done) | rfl) | with_reducible apply CBox.alloc)) b)
          have K4 : Hid (GBox _ (w.heap.size + 1 + 1) (⟨27, 0, 0, .slice none 0 0, .slice none 0 0, .slice none 0 0⟩)) := Lib.hid (GBox.below (by repeat (first | with_reducible exact K4.out | with_reducible apply GBox.drewN | with_reducible apply GBox.drew | (with_reducible refine GBox.newAt ?_ ?_ <;> first | (simp; done) | rfl) | with_reducible apply GBox.alloc)) b)
          try clear k6a k6b k6c k6d k6e k6z
          have k6z := K6.out.lt
          obtain ⟨k6a, k6b, k6c, k6d, k6e⟩ := K6.out.cell
          try clear k6f
          have k6f := K6.out.frozen
          try clear k3a k3b k3c k3d k3z
          have k3z := K3.out.lt
          obtain ⟨k3a, k3b, k3c, k3d⟩ := K3.out.cell
          try clear k4a k4b k4c k4d k4e k4z
          have k4z := K4.out.lt
          obtain ⟨k4a, k4b, k4c, k4d, k4e⟩ := K4.out.cell
          clear b
          go_wp2_with fail
          go_meet
          case rel => exact ⟨a, m, L, p2, c2, hm, ha, HLm.out, HE, K6, HG.out.top HZr.out.h, HB, K3, K4⟩
  case rest =>
    clear K6 HB2 K32 K42 HG3 HC6
    obtain ⟨a, m, L, p2, c2, hm, ha, hLm, HUe2, K6, HG, HB, K3, K4⟩ := hcut
    obtain ⟨k6a, k6b, k6c, k6d, k6e⟩ := K6.out.cell
    have k6z := K6.out.lt
    have k6f := K6.out.frozen
    obtain ⟨k3a, k3b, k3c, k3d⟩ := K3.out.cell
    have k3z := K3.out.lt
    obtain ⟨k4a, k4b, k4c, k4d, k4e⟩ := K4.out.cell
    have k4z := K4.out.lt
    have k4f := K4.out.frozen
    have HLm := Lib.hid hLm
    have HOk : Hid ((Dl.mk s a L).okP) := Lib.hid (HUe2.out ▸ HU.out)
    have HR := Lib.hid (Own.rd HG.out.o1)
    have HZr : Hid (SzA wc wc.heap.size) := Lib.hid ⟨Nat.le_refl _⟩
    have hU2 := HUe2.out
    rw [hU2] at HK HMD
    have HKk := Lib.hid (fun w h => kind_of s a L cl p2 (some ⟨gs, 0, none⟩) (some ⟨gw, 0, none⟩) m c2 nw cs1 nw cw1 w hLm hm (by omega) h HOk.out.cards HOk.out.2.2.2 hc)
    have HTk := Lib.hid (fun w h => impl_take s a L (plc cl) p2 m c2 w HOk.out.1 ha hLm hm h)
    have HKd : Hid (kd = kind L nw cl) := Lib.hid HK.out
    rw [← HKd.out] at HKk
    have hk3 := kind_bd L nw cl
    rw [← HKd.out] at hk3
    clear hU2 HUe2 HU HUs HK hLm HR0 HCp HUe
    rcases hk3 with rfl | rfl | rfl
    · have hq := kind_p (l := L) (n := nw) (c := cl) (by rw [← HKd.out]; decide)
      obtain ⟨q, hqe⟩ : ∃ q : Nat, cl.a = (q : Int) := ⟨cl.a.toNat, by omega⟩
      have hqn : q < nw := by omega
      have hlok := take_ok' (t := plc cl) HOk.out
      obtain ⟨L2, hL2⟩ : ∃ L2, (takeD ⟨s, a, L⟩ (plc cl)).l = L2 := ⟨_, rfl⟩
      obtain ⟨a2, ha2⟩ : ∃ a2 : Nat, (takeD ⟨s, a, L⟩ (plc cl)).nx = (a2 : Int) := ⟨(takeD ⟨s, a, L⟩ (plc cl)).nx.toNat, by have := hlok.2.1.1; omega⟩
      have hD2 : takeD ⟨s, a, L⟩ (plc cl) = ⟨s, a2, L2⟩ := by rw [← ha2, ← hL2]; rfl
      obtain ⟨m2, hm2⟩ : ∃ m2, L2.length = m2 := ⟨_, rfl⟩
      rw [hL2, ha2] at HTk
      have HLm2 := Lib.hid hm2
      have HGx : Hid (G = ⟨s, a2, L2, bump sc q, wt⟩) := Lib.hid (by have h1 := HMD.out; have h2 := HMS.out; have h3 := HMW.out; rw [if_neg (by decide)] at h3; rw [if_pos rfl, hqe] at h2; rw [if_pos rfl, hD2] at h1; rw [HMk.out, h1, h2, h3]; rfl)
      have HQe := Lib.hid hqe
      clear HMD HMS HMW HMk HKd hq hqe hD2 hm2 hL2 ha2 hlok
      go_wp2_with fail
      refine ((HKk.out _ (by repeat (first | with_reducible exact HR.out | with_reducible apply Rd.drewN | with_reducible apply Rd.drew | with_reducible apply Rd.alloc)))).mono ?_
      rintro e w3 ⟨rfl, b⟩
      have Sw3 := Lib.hid b.size
      have HB := Lib.hid (chain0 (w := w) (by repeat (first | with_reducible exact Below.refl _ _ | with_reducible exact HB.out | with_reducible apply Below.drew | with_reducible apply bdN | with_reducible refine Below.alloc ?_ (by first | exact Nat.le_refl _ | with_reducible exact HB.out.size | omega | (simp; done) | (simp; omega) | (have := HB.out.size; simp at *; omega)) _ | with_reducible refine Below.setCell ?_ (by first | exact Nat.le_refl _ | with_reducible exact HB.out.size | omega | (simp; done) | (simp; omega) | (have := HB.out.size; simp at *; omega)) _)) b)
      have HZr := Lib.hid (SzA.below (by repeat (first | with_reducible exact HZr.out | with_reducible apply SzA.drewN | with_reducible apply SzA.drew | with_reducible apply SzA.alloc)) b)
      have HG := Lib.hid (OwnG.below (by repeat (first | with_reducible exact HG.out | with_reducible apply OwnG.drewN | with_reducible apply OwnG.drew | with_reducible apply OwnG.alloc)) b)
      have HR := Lib.hid (Rd.below (by repeat (first | with_reducible exact HR.out | with_reducible apply Rd.drewN | with_reducible apply Rd.drew | with_reducible apply Rd.alloc)) b)
      have K6 : Hid (GBox _ (g6) (⟨27, s, a, .slice p2 m c2, .slice (some ⟨gs, 0, none⟩) nw cs1, .slice (some ⟨gw, 0, none⟩) nw cw1⟩)) := Lib.hid (GBox.below (by repeat (first | with_reducible exact K6.out | with_reducible apply GBox.drewN | with_reducible apply GBox.drew | (with_reducible refine GBox.newAt ?_ ?_ <;> first | (simp; done) | rfl) | with_reducible apply GBox.alloc)) b)
      have K3 : Hid (CBox _ (w.heap.size + 1) (⟨45, cl⟩)) := Lib.hid (CBox.below (by repeat (first | with_reducible exact K3.out | with_reducible apply CBox.drewN | with_reducible apply CBox.drew | (with_reducible refine CBox.newAt ?_ ?_ <;> first | (simp; done) | rfl) | with_reducible apply CBox.alloc)) b)
      have K4 : Hid (GBox _ (w.heap.size + 1 + 1) (⟨27, 0, 0, .slice none 0 0, .slice none 0 0, .slice none 0 0⟩)) := Lib.hid (GBox.below (by repeat (first | with_reducible exact K4.out | with_reducible apply GBox.drewN | with_reducible apply GBox.drew | (with_reducible refine GBox.newAt ?_ ?_ <;> first | (simp; done) | rfl) | with_reducible apply GBox.alloc)) b)
      try clear k6a k6b k6c k6d k6e k6z
      have k6z := K6.out.lt
      obtain ⟨k6a, k6b, k6c, k6d, k6e⟩ := K6.out.cell
      try clear k6f
      have k6f := K6.out.frozen
      try clear k3a k3b k3c k3d k3z
      have k3z := K3.out.lt
      obtain ⟨k3a, k3b, k3c, k3d⟩ := K3.out.cell
      try clear k4a k4b k4c k4d k4e k4z
      have k4z := K4.out.lt
      obtain ⟨k4a, k4b, k4c, k4d, k4e⟩ := K4.out.cell
      try clear k4f
      have k4f := K4.out.frozen
      clear b
      go_wp2_with fail
      refine (HTk.out _ (by repeat (first | with_reducible exact HR.out | with_reducible apply Rd.drewN | with_reducible apply Rd.drew | with_reducible apply Rd.alloc))).mono ?_
      rintro e w5 ⟨u, rfl, hu, b⟩
      obtain ⟨p3, c3, rfl, -⟩ := hu.form
      rw [HLm2.out] at hu ⊢
      have HGn := Lib.hid (OwnG.newL HG.out b hu (by have := HG.out.o2.span gs rfl; have := HG.out.c2 gs rfl; omega) HZr.out.h)
      have Sw5 := Lib.hid b.size
      have HB := Lib.hid (chain0 (w := w) (by repeat (first | with_reducible exact Below.refl _ _ | with_reducible exact HB.out | with_reducible apply Below.drew | with_reducible apply bdN | with_reducible refine Below.alloc ?_ (by first | exact Nat.le_refl _ | with_reducible exact HB.out.size | omega | (simp; done) | (simp; omega) | (have := HB.out.size; simp at *; omega)) _ | with_reducible refine Below.setCell ?_ (by first | exact Nat.le_refl _ | with_reducible exact HB.out.size | omega | (simp; done) | (simp; omega) | (have := HB.out.size; simp at *; omega)) _)) b)
      have HZr := Lib.hid (SzA.below (by repeat (first | with_reducible exact HZr.out | with_reducible apply SzA.drewN | with_reducible apply SzA.drew | with_reducible apply SzA.alloc)) b)
      have HG := Lib.hid (OwnG.below (by repeat (first | with_reducible exact HG.out | with_reducible apply OwnG.drewN | with_reducible apply OwnG.drew | with_reducible apply OwnG.alloc)) b)
      have HR := Lib.hid (Rd.below (by repeat (first | with_reducible exact HR.out | with_reducible apply Rd.drewN | with_reducible apply Rd.drew | with_reducible apply Rd.alloc)) b)
      have K6 : Hid (GBox _ (g6) (⟨27, s, a, .slice p2 m c2, .slice (some ⟨gs, 0, none⟩) nw cs1, .slice (some ⟨gw, 0, none⟩) nw cw1⟩)) := Lib.hid (GBox.below (by repeat (first | with_reducible exact K6.out | with_reducible apply GBox.drewN | with_reducible apply GBox.drew | (with_reducible refine GBox.newAt ?_ ?_ <;> first | (simp; done) | rfl) | with_reducible apply GBox.alloc)) b)
      have K3 : Hid (CBox _ (w.heap.size + 1) (⟨45, cl⟩)) := Lib.hid (CBox.below (by repeat (first | with_reducible exact K3.out | with_reducible apply CBox.drewN | with_reducible apply CBox.drew | (with_reducible refine CBox.newAt ?_ ?_ <;> first | (simp; done) | rfl) | with_reducible apply CBox.alloc)) b)
      have K4 : Hid (GBox _ (w.heap.size + 1 + 1) (⟨27, 0, 0, .slice none 0 0, .slice none 0 0, .slice none 0 0⟩)) := Lib.hid (GBox.below (by repeat (first | with_reducible exact K4.out | with_reducible apply GBox.drewN | with_reducible apply GBox.drew | (with_reducible refine GBox.newAt ?_ ?_ <;> first | (simp; done) | rfl) | with_reducible apply GBox.alloc)) b)
      try clear k6a k6b k6c k6d k6e k6z
      have k6z := K6.out.lt
      obtain ⟨k6a, k6b, k6c, k6d, k6e⟩ := K6.out.cell
      try clear k6f
      have k6f := K6.out.frozen
      try clear k3a k3b k3c k3d k3z
      have k3z := K3.out.lt
      obtain ⟨k3a, k3b, k3c, k3d⟩ := K3.out.cell
      try clear k4a k4b k4c k4d k4e k4z
      have k4z := K4.out.lt
      obtain ⟨k4a, k4b, k4c, k4d, k4e⟩ := K4.out.cell
      try clear k4f
      have k4f := K4.out.frozen
      clear b
      clear hu HG
      have hds := deal_sets K6.out s a2 (.slice p3 m2 c3)
      have HG5 := Lib.hid ((HGn.out.off hds.2 (offG HGn.out K6.out rfl)).top hds.2.size)
      have K65 := Lib.hid hds.1
      have HB5 := Lib.hid (game.Below.by_ HB.out hds.2 HB.out.size (by have := HG6.out; omega))
      have K35 := Lib.hid (K3.out.grown hds.2 (by have := HG6.out; omega))
      have K45 := Lib.hid (K4.out.grown hds.2 (by have := HG6.out; omega))
      clear hds HZr HGn
      go_upto_region 8 with fail
      generalize (((w5.setCell ⟨g6, 0, none⟩ (.int .i64 s)).setCell ⟨g6, 1, none⟩ (.int .i64 (a2 : Int))).setCell ⟨g6, 2, none⟩ (.slice p3 m2 c3)) = W3 at K65 HG5 HB5 K35 K45 ⊢
      clear K6 K3 K4 HB k6a k6b k6c k6d k6e k6z k4a k4b k4c k4d k4e k4z k4f k6f k3a k3b k3c k3d k3z HR
      have K6 := Lib.hid K65.out
      have K3 := Lib.hid K35.out
      have K4 := Lib.hid K45.out
      have HG := Lib.hid HG5.out
      have HB := Lib.hid HB5.out
      have HZr : Hid (SzA W3 W3.heap.size) := Lib.hid ⟨Nat.le_refl _⟩
      clear K65 K35 K45 HG5 HB5
      obtain ⟨x, hx, d0, df, _, dlt⟩ := OwnI.slot HS.out HG.out.o2 q hqn
      have hxb := tly_at HO.out.ts hx
      have HX := Lib.hid hx
      clear hx
      refine region_seq [0, 1, 2, 3, 4, 5, 6, 7, 8] [9, 10, 11, 12] (by kernel_rfl) (by kernel_rfl) rfl (by kernel_rfl) (fun w' => w'.cell? ⟨g6, 3, none⟩ = some (.slice (some ⟨gs, 0, none⟩) nw cs1) ∧ w'.cell? ⟨w.heap.size + 1, 0, none⟩ = some (.int .i64 (q : Int))) (fun w' h => ⟨(K6.out.below h).cell.2.2.2.1, by have h1 := (K3.out.below h).cell.1; rwa [show (Cv.mk 45 cl).c.a = (q : Int) from HQe.out] at h1⟩) ?_
      refine j_pure 35 (v := .pointer (some ⟨g6, 3, none⟩)) rfl rfl rfl (fun w => by kernel_rfl) ?_
      refine j_cell 36 (v := .slice (some ⟨gs, 0, none⟩) nw cs1) rfl rfl rfl rfl (by kernel_rfl) (fun w' h => load_slI h.1) ?_
      refine j_pure 37 (v := .pointer (some ⟨w.heap.size + 1, 0, none⟩)) rfl rfl rfl (fun w => by kernel_rfl) ?_
      refine j_cell 38 (v := .int .i64 q) rfl rfl rfl rfl (by kernel_rfl) (fun w' h => load_int h.2) ?_
      refine j_pure 39 (v := .pointer (some ⟨g6, 3, none⟩)) rfl rfl rfl (fun w => by kernel_rfl) ?_
      refine j_cell 40 (v := .slice (some ⟨gs, 0, none⟩) nw cs1) rfl rfl rfl rfl (by kernel_rfl) (fun w' h => load_slI h.1) ?_
      refine j_pure 41 (v := .pointer (some ⟨w.heap.size + 1, 0, none⟩)) rfl rfl rfl (fun w => by kernel_rfl) ?_
      refine j_cell 42 (v := .int .i64 q) rfl rfl rfl rfl (by kernel_rfl) (fun w' h => load_int h.2) ?_
      refine j_pure 43 (v := .pointer (some ⟨gs, q, none⟩)) rfl rfl rfl (exec_index0 (n := nw) (cp := cs1) hqn rfl (by kernel_rfl) (by kernel_rfl)) ?_
      intro wa hI
      have d1 := (Below.cell hI (p := ⟨gs, q, none⟩) dlt).trans d0
      have hS : ∀ w', BI W3 w' → w'.cell? ⟨g6, 3, none⟩ = some (.slice (some ⟨gs, 0, none⟩) nw cs1) ∧ w'.cell? ⟨w.heap.size + 1, 0, none⟩ = some (.int .i64 (q : Int)) := (fun w' h => ⟨(K6.out.below h).cell.2.2.2.1, by have h1 := (K3.out.below h).cell.1; rwa [show (Cv.mk 45 cl).c.a = (q : Int) from HQe.out] at h1⟩)
      refine u_val (v := .int .i64 x) rfl rfl (exec_loadI rfl (by kernel_rfl) d1) (hS _ hI) ?_
      refine u_call (f := 115) (args := #[.int .i64 x]) rfl rfl (by kernel_rfl) ((one_more x wa hxb).mono ?_)
      rintro e wb ⟨rfl, b⟩
      have hI2 := BI.next hI b
      refine ⟨_, rfl, hS _ hI2, ?_⟩
      refine u_val (v := .pointer (some ⟨gs, q, none⟩)) rfl rfl (exec_index0 (n := nw) (cp := cs1) hqn rfl (by kernel_rfl) (by kernel_rfl) wb) (hS _ hI2) ?_
      have d2 := (Below.cell hI2 (p := ⟨gs, q, none⟩) dlt).trans d0
      have ho6 := offG HG.out K6.out rfl
      have ho4 := offG HG.out K4.out rfl
      have gbc := gb_cell wb gs q (.int .i64 (more x))
      have K6a := GBox.grown (K6.out.below hI2) gbc (fun e => ho6.2.1 gs rfl e.symm)
      have K4a := GBox.grown (K4.out.below hI2) gbc (fun e => ho4.2.1 gs rfl e.symm)
      have K3a := CBox.grown (K3.out.below hI2) gbc (fun e => (offC HG.out K3.out).2.1 gs rfl e.symm)
      have HGa := bump_sets (HG.out.below hI2) HS.out q x HX.out
      have HBa := game.Below.by_ (HB.out.trans (Below.mono hI2 HB.out.size)) gbc (Nat.le_trans HB.out.size (Below.size hI2)) (by have := (HG.out.o2.span gs rfl).1; omega)
      have HZa := Nat.le_trans HZr.out.h (Nat.le_trans (Below.size hI2) gbc.size)
      refine u_skip rfl rfl (exec_storeI (x := x) rfl (by kernel_rfl) (by kernel_rfl) d2 ((OwnI.slot HS.out (HG.out.below hI2).o2 q hqn).choose_spec.2.2.1 q)) ⟨K6a.cell.2.2.2.1, by have h1 := K3a.cell.1; rwa [show (Cv.mk 45 cl).c.a = (q : Int) from HQe.out] at h1⟩ ?_
      clear K6 K4 HG HB HZr hS K3a hI hI2 b d1 d2 d0 df ho6 ho4 gbc
      simp only [runsU, Act.put, List.setIfInBounds_toArray, List.set_cons_zero, List.set_cons_succ]
      have K6 := Lib.hid K6a
      have K4 := Lib.hid K4a
      have HG := Lib.hid HGa
      have HB := Lib.hid HBa
      have HZr : Hid (SzA _ _) := Lib.hid ⟨HZa⟩
      clear K6a K4a HGa HBa HZa
      generalize (wb.setCell ⟨gs, q, none⟩ (.int .i64 (more x))) = W6 at K6 K4 HG HB HZr ⊢
      obtain ⟨k6a, k6b, k6c, k6d, k6e⟩ := K6.out.cell
      have k6z := K6.out.lt
      obtain ⟨k4a, k4b, k4c, k4d, k4e⟩ := K4.out.cell
      have k4z := K4.out.lt
      have k4f := K4.out.frozen
      go_wp2_with fail
      try simp only [Exit.inBlock, Exit.then]
      refine bodyPost_ret (res_game2 Try.results72 rfl (K4.out.set_ _ _ _ _ _)) rfl ?_
      have HGf := (((((HG.out.far (g := w.heap.size + 1 + 1) (.inl (by omega)) 0 (.int .i64 s)).far (g := w.heap.size + 1 + 1) (.inl (by omega)) 1 (.int .i64 a2)).far (g := w.heap.size + 1 + 1) (.inl (by omega)) 2 (.slice p3 m2 c3)).far (g := w.heap.size + 1 + 1) (.inl (by omega)) 3 (.slice (some ⟨gs, 0, none⟩) nw cs1)).far (g := w.heap.size + 1 + 1) (.inl (by omega)) 4 (.slice (some ⟨gw, 0, none⟩) nw cw1))
      refine ⟨_, _, _, by rw [HGx.out]; rfl, ?_, by repeat (first | with_reducible exact Below.refl _ _ | with_reducible exact HB.out | with_reducible apply Below.drew | with_reducible apply bdN | with_reducible refine Below.alloc ?_ (by first | exact Nat.le_refl _ | with_reducible exact HB.out.size | omega | (simp; done) | (simp; omega) | (have := HB.out.size; simp at *; omega)) _ | with_reducible refine Below.setCell ?_ (by first | exact Nat.le_refl _ | with_reducible exact HB.out.size | omega | (simp; done) | (simp; omega) | (have := HB.out.size; simp at *; omega)) _)⟩
      rw [HGx.out]
      exact (HGf.base (show w.heap.size ≤ w.heap.size + 1 + 1 + 1 by omega)).top (by have := HZr.out.h; simpa [World.setCell] using this)
    · have hq := kind_p (l := L) (n := nw) (c := cl) (by rw [← HKd.out]; decide)
      obtain ⟨q, hqe⟩ : ∃ q : Nat, cl.a = (q : Int) := ⟨cl.a.toNat, by omega⟩
      have hqn : q < nw := by omega
      have HGx : Hid (G = ⟨s, a, L, sc, bump wt q⟩) := Lib.hid (by have h1 := HMD.out; have h2 := HMS.out; have h3 := HMW.out; rw [if_neg (by decide)] at h1 h2; rw [if_pos rfl, hqe] at h3; rw [HMk.out, h1, h2, h3]; rfl)
      have HQe := Lib.hid hqe
      clear HTk HMD HMS HMW HMk HKd hq hqe
      go_wp2_with fail
      refine ((HKk.out _ (by repeat (first | with_reducible exact HR.out | with_reducible apply Rd.drewN | with_reducible apply Rd.drew | with_reducible apply Rd.alloc)))).mono ?_
      rintro e w3 ⟨rfl, b⟩
      have Sw3 := Lib.hid b.size
      have HB := Lib.hid (chain0 (w := w) (by repeat (first | with_reducible exact Below.refl _ _ | with_reducible exact HB.out | with_reducible apply Below.drew | with_reducible apply bdN | with_reducible refine Below.alloc ?_ (by first | exact Nat.le_refl _ | with_reducible exact HB.out.size | omega | (simp; done) | (simp; omega) | (have := HB.out.size; simp at *; omega)) _ | with_reducible refine Below.setCell ?_ (by first | exact Nat.le_refl _ | with_reducible exact HB.out.size | omega | (simp; done) | (simp; omega) | (have := HB.out.size; simp at *; omega)) _)) b)
      have HZr := Lib.hid (SzA.below (by repeat (first | with_reducible exact HZr.out | with_reducible apply SzA.drewN | with_reducible apply SzA.drew | with_reducible apply SzA.alloc)) b)
      have HG := Lib.hid (OwnG.below (by repeat (first | with_reducible exact HG.out | with_reducible apply OwnG.drewN | with_reducible apply OwnG.drew | with_reducible apply OwnG.alloc)) b)
      have HR := Lib.hid (Rd.below (by repeat (first | with_reducible exact HR.out | with_reducible apply Rd.drewN | with_reducible apply Rd.drew | with_reducible apply Rd.alloc)) b)
      have K6 : Hid (GBox _ (g6) (⟨27, s, a, .slice p2 m c2, .slice (some ⟨gs, 0, none⟩) nw cs1, .slice (some ⟨gw, 0, none⟩) nw cw1⟩)) := Lib.hid (GBox.below (by repeat (first | with_reducible exact K6.out | with_reducible apply GBox.drewN | with_reducible apply GBox.drew | (with_reducible refine GBox.newAt ?_ ?_ <;> first | (simp; done) | rfl) | with_reducible apply GBox.alloc)) b)
      have K3 : Hid (CBox _ (w.heap.size + 1) (⟨45, cl⟩)) := Lib.hid (CBox.below (by repeat (first | with_reducible exact K3.out | with_reducible apply CBox.drewN | with_reducible apply CBox.drew | (with_reducible refine CBox.newAt ?_ ?_ <;> first | (simp; done) | rfl) | with_reducible apply CBox.alloc)) b)
      have K4 : Hid (GBox _ (w.heap.size + 1 + 1) (⟨27, 0, 0, .slice none 0 0, .slice none 0 0, .slice none 0 0⟩)) := Lib.hid (GBox.below (by repeat (first | with_reducible exact K4.out | with_reducible apply GBox.drewN | with_reducible apply GBox.drew | (with_reducible refine GBox.newAt ?_ ?_ <;> first | (simp; done) | rfl) | with_reducible apply GBox.alloc)) b)
      try clear k6a k6b k6c k6d k6e k6z
      have k6z := K6.out.lt
      obtain ⟨k6a, k6b, k6c, k6d, k6e⟩ := K6.out.cell
      try clear k6f
      have k6f := K6.out.frozen
      try clear k3a k3b k3c k3d k3z
      have k3z := K3.out.lt
      obtain ⟨k3a, k3b, k3c, k3d⟩ := K3.out.cell
      try clear k4a k4b k4c k4d k4e k4z
      have k4z := K4.out.lt
      obtain ⟨k4a, k4b, k4c, k4d, k4e⟩ := K4.out.cell
      try clear k4f
      have k4f := K4.out.frozen
      clear b
      go_upto_region 10 with fail
      obtain ⟨W3, hW3⟩ : ∃ W3, W3 = w3 := ⟨_, rfl⟩
      rw [← hW3] at K6 K3 K4 HG HB HZr
      rw [← hW3]
      clear hW3 k6a k6b k6c k6d k6e k6z k4a k4b k4c k4d k4e k4z k4f k6f k3a k3b k3c k3d k3z HR
      obtain ⟨x, hx, d0, df, _, dlt⟩ := OwnI.slot HW.out HG.out.o3 q hqn
      have hxb := tly_at HO.out.tw hx
      have HX := Lib.hid hx
      clear hx
      refine region_seq [0, 1, 2, 3, 4, 5, 6, 7, 8] [9, 10, 11, 12] (by kernel_rfl) (by kernel_rfl) rfl (by kernel_rfl) (fun w' => w'.cell? ⟨g6, 4, none⟩ = some (.slice (some ⟨gw, 0, none⟩) nw cw1) ∧ w'.cell? ⟨w.heap.size + 1, 0, none⟩ = some (.int .i64 (q : Int))) (fun w' h => ⟨(K6.out.below h).cell.2.2.2.2, by have h1 := (K3.out.below h).cell.1; rwa [show (Cv.mk 45 cl).c.a = (q : Int) from HQe.out] at h1⟩) ?_
      refine j_pure 49 (v := .pointer (some ⟨g6, 4, none⟩)) rfl rfl rfl (fun w => by kernel_rfl) ?_
      refine j_cell 50 (v := .slice (some ⟨gw, 0, none⟩) nw cw1) rfl rfl rfl rfl (by kernel_rfl) (fun w' h => load_slI h.1) ?_
      refine j_pure 51 (v := .pointer (some ⟨w.heap.size + 1, 0, none⟩)) rfl rfl rfl (fun w => by kernel_rfl) ?_
      refine j_cell 52 (v := .int .i64 q) rfl rfl rfl rfl (by kernel_rfl) (fun w' h => load_int h.2) ?_
      refine j_pure 53 (v := .pointer (some ⟨g6, 4, none⟩)) rfl rfl rfl (fun w => by kernel_rfl) ?_
      refine j_cell 54 (v := .slice (some ⟨gw, 0, none⟩) nw cw1) rfl rfl rfl rfl (by kernel_rfl) (fun w' h => load_slI h.1) ?_
      refine j_pure 55 (v := .pointer (some ⟨w.heap.size + 1, 0, none⟩)) rfl rfl rfl (fun w => by kernel_rfl) ?_
      refine j_cell 56 (v := .int .i64 q) rfl rfl rfl rfl (by kernel_rfl) (fun w' h => load_int h.2) ?_
      refine j_pure 57 (v := .pointer (some ⟨gw, q, none⟩)) rfl rfl rfl (exec_index0 (n := nw) (cp := cw1) hqn rfl (by kernel_rfl) (by kernel_rfl)) ?_
      intro wa hI
      have d1 := (Below.cell hI (p := ⟨gw, q, none⟩) dlt).trans d0
      have hS : ∀ w', BI W3 w' → w'.cell? ⟨g6, 4, none⟩ = some (.slice (some ⟨gw, 0, none⟩) nw cw1) ∧ w'.cell? ⟨w.heap.size + 1, 0, none⟩ = some (.int .i64 (q : Int)) := (fun w' h => ⟨(K6.out.below h).cell.2.2.2.2, by have h1 := (K3.out.below h).cell.1; rwa [show (Cv.mk 45 cl).c.a = (q : Int) from HQe.out] at h1⟩)
      refine u_val (v := .int .i64 x) rfl rfl (exec_loadI rfl (by kernel_rfl) d1) (hS _ hI) ?_
      refine u_call (f := 115) (args := #[.int .i64 x]) rfl rfl (by kernel_rfl) ((one_more x wa hxb).mono ?_)
      rintro e wb ⟨rfl, b⟩
      have hI2 := BI.next hI b
      refine ⟨_, rfl, hS _ hI2, ?_⟩
      refine u_val (v := .pointer (some ⟨gw, q, none⟩)) rfl rfl (exec_index0 (n := nw) (cp := cw1) hqn rfl (by kernel_rfl) (by kernel_rfl) wb) (hS _ hI2) ?_
      have d2 := (Below.cell hI2 (p := ⟨gw, q, none⟩) dlt).trans d0
      have ho6 := offG HG.out K6.out rfl
      have ho4 := offG HG.out K4.out rfl
      have gbc := gb_cell wb gw q (.int .i64 (more x))
      have K6a := GBox.grown (K6.out.below hI2) gbc (fun e => ho6.2.2 gw rfl e.symm)
      have K4a := GBox.grown (K4.out.below hI2) gbc (fun e => ho4.2.2 gw rfl e.symm)
      have K3a := CBox.grown (K3.out.below hI2) gbc (fun e => (offC HG.out K3.out).2.2 gw rfl e.symm)
      have HGa := bump_setsW (HG.out.below hI2) HW.out q x HX.out
      have HBa := game.Below.by_ (HB.out.trans (Below.mono hI2 HB.out.size)) gbc (Nat.le_trans HB.out.size (Below.size hI2)) (by have := (HG.out.o3.span gw rfl).1; omega)
      have HZa := Nat.le_trans HZr.out.h (Nat.le_trans (Below.size hI2) gbc.size)
      refine u_skip rfl rfl (exec_storeI (x := x) rfl (by kernel_rfl) (by kernel_rfl) d2 ((OwnI.slot HW.out (HG.out.below hI2).o3 q hqn).choose_spec.2.2.1 q)) ⟨K6a.cell.2.2.2.2, by have h1 := K3a.cell.1; rwa [show (Cv.mk 45 cl).c.a = (q : Int) from HQe.out] at h1⟩ ?_
      clear K6 K4 HG HB HZr hS K3a hI hI2 b d1 d2 d0 df ho6 ho4 gbc
      simp only [runsU, Act.put, List.setIfInBounds_toArray, List.set_cons_zero, List.set_cons_succ]
      have K6 := Lib.hid K6a
      have K4 := Lib.hid K4a
      have HG := Lib.hid HGa
      have HB := Lib.hid HBa
      have HZr : Hid (SzA _ _) := Lib.hid ⟨HZa⟩
      clear K6a K4a HGa HBa HZa
      generalize (wb.setCell ⟨gw, q, none⟩ (.int .i64 (more x))) = W6 at K6 K4 HG HB HZr ⊢
      obtain ⟨k6a, k6b, k6c, k6d, k6e⟩ := K6.out.cell
      have k6z := K6.out.lt
      obtain ⟨k4a, k4b, k4c, k4d, k4e⟩ := K4.out.cell
      have k4z := K4.out.lt
      have k4f := K4.out.frozen
      go_wp2_with fail
      try simp only [Exit.inBlock, Exit.then]
      refine bodyPost_ret (res_game2 Try.results72 rfl (K4.out.set_ _ _ _ _ _)) rfl ?_
      have HGf := (((((HG.out.far (g := w.heap.size + 1 + 1) (.inl (by omega)) 0 (.int .i64 s)).far (g := w.heap.size + 1 + 1) (.inl (by omega)) 1 (.int .i64 a)).far (g := w.heap.size + 1 + 1) (.inl (by omega)) 2 (.slice p2 m c2)).far (g := w.heap.size + 1 + 1) (.inl (by omega)) 3 (.slice (some ⟨gs, 0, none⟩) nw cs1)).far (g := w.heap.size + 1 + 1) (.inl (by omega)) 4 (.slice (some ⟨gw, 0, none⟩) nw cw1))
      refine ⟨_, _, _, by rw [HGx.out]; rfl, ?_, by repeat (first | with_reducible exact Below.refl _ _ | with_reducible exact HB.out | with_reducible apply Below.drew | with_reducible apply bdN | with_reducible refine Below.alloc ?_ (by first | exact Nat.le_refl _ | with_reducible exact HB.out.size | omega | (simp; done) | (simp; omega) | (have := HB.out.size; simp at *; omega)) _ | with_reducible refine Below.setCell ?_ (by first | exact Nat.le_refl _ | with_reducible exact HB.out.size | omega | (simp; done) | (simp; omega) | (have := HB.out.size; simp at *; omega)) _)⟩
      rw [HGx.out]
      exact (HGf.base (show w.heap.size ≤ w.heap.size + 1 + 1 + 1 by omega)).top (by have := HZr.out.h; simpa [World.setCell] using this)
    · have HGx : Hid (G = ⟨s, a, L, sc, wt⟩) := Lib.hid (by have h1 := HMD.out; have h2 := HMS.out; have h3 := HMW.out; rw [if_neg (by decide)] at h1 h2 h3; rw [HMk.out, h1, h2, h3])
      clear HTk HMD HMS HMW HMk HKd
      go_wp2_with fail
      refine ((HKk.out _ (by repeat (first | with_reducible exact HR.out | with_reducible apply Rd.drewN | with_reducible apply Rd.drew | with_reducible apply Rd.alloc)))).mono ?_
      rintro e w3 ⟨rfl, b⟩
      have Sw3 := Lib.hid b.size
      have HB := Lib.hid (chain0 (w := w) (by repeat (first | with_reducible exact Below.refl _ _ | with_reducible exact HB.out | with_reducible apply Below.drew | with_reducible apply bdN | with_reducible refine Below.alloc ?_ (by first | exact Nat.le_refl _ | with_reducible exact HB.out.size | omega | (simp; done) | (simp; omega) | (have := HB.out.size; simp at *; omega)) _ | with_reducible refine Below.setCell ?_ (by first | exact Nat.le_refl _ | with_reducible exact HB.out.size | omega | (simp; done) | (simp; omega) | (have := HB.out.size; simp at *; omega)) _)) b)
      have HZr := Lib.hid (SzA.below (by repeat (first | with_reducible exact HZr.out | with_reducible apply SzA.drewN | with_reducible apply SzA.drew | with_reducible apply SzA.alloc)) b)
      have HG := Lib.hid (OwnG.below (by repeat (first | with_reducible exact HG.out | with_reducible apply OwnG.drewN | with_reducible apply OwnG.drew | with_reducible apply OwnG.alloc)) b)
      have HR := Lib.hid (Rd.below (by repeat (first | with_reducible exact HR.out | with_reducible apply Rd.drewN | with_reducible apply Rd.drew | with_reducible apply Rd.alloc)) b)
      have K6 : Hid (GBox _ (g6) (⟨27, s, a, .slice p2 m c2, .slice (some ⟨gs, 0, none⟩) nw cs1, .slice (some ⟨gw, 0, none⟩) nw cw1⟩)) := Lib.hid (GBox.below (by repeat (first | with_reducible exact K6.out | with_reducible apply GBox.drewN | with_reducible apply GBox.drew | (with_reducible refine GBox.newAt ?_ ?_ <;> first | (simp; done) | rfl) | with_reducible apply GBox.alloc)) b)
      have K3 : Hid (CBox _ (w.heap.size + 1) (⟨45, cl⟩)) := Lib.hid (CBox.below (by repeat (first | with_reducible exact K3.out | with_reducible apply CBox.drewN | with_reducible apply CBox.drew | (with_reducible refine CBox.newAt ?_ ?_ <;> first | (simp; done) | rfl) | with_reducible apply CBox.alloc)) b)
      have K4 : Hid (GBox _ (w.heap.size + 1 + 1) (⟨27, 0, 0, .slice none 0 0, .slice none 0 0, .slice none 0 0⟩)) := Lib.hid (GBox.below (by repeat (first | with_reducible exact K4.out | with_reducible apply GBox.drewN | with_reducible apply GBox.drew | (with_reducible refine GBox.newAt ?_ ?_ <;> first | (simp; done) | rfl) | with_reducible apply GBox.alloc)) b)
      try clear k6a k6b k6c k6d k6e k6z
      have k6z := K6.out.lt
      obtain ⟨k6a, k6b, k6c, k6d, k6e⟩ := K6.out.cell
      try clear k6f
      have k6f := K6.out.frozen
      try clear k3a k3b k3c k3d k3z
      have k3z := K3.out.lt
      obtain ⟨k3a, k3b, k3c, k3d⟩ := K3.out.cell
      try clear k4a k4b k4c k4d k4e k4z
      have k4z := K4.out.lt
      obtain ⟨k4a, k4b, k4c, k4d, k4e⟩ := K4.out.cell
      try clear k4f
      have k4f := K4.out.frozen
      clear b
      go_wp2_with fail
      try simp only [Exit.inBlock, Exit.then]
      refine bodyPost_ret (res_game2 Try.results72 rfl (K4.out.set_ _ _ _ _ _)) rfl ?_
      have HGf := (((((HG.out.far (g := w.heap.size + 1 + 1) (.inl (by omega)) 0 (.int .i64 s)).far (g := w.heap.size + 1 + 1) (.inl (by omega)) 1 (.int .i64 a)).far (g := w.heap.size + 1 + 1) (.inl (by omega)) 2 (.slice p2 m c2)).far (g := w.heap.size + 1 + 1) (.inl (by omega)) 3 (.slice (some ⟨gs, 0, none⟩) nw cs1)).far (g := w.heap.size + 1 + 1) (.inl (by omega)) 4 (.slice (some ⟨gw, 0, none⟩) nw cw1))
      refine ⟨_, _, _, by rw [HGx.out]; rfl, ?_, by repeat (first | with_reducible exact Below.refl _ _ | with_reducible exact HB.out | with_reducible apply Below.drew | with_reducible apply bdN | with_reducible refine Below.alloc ?_ (by first | exact Nat.le_refl _ | with_reducible exact HB.out.size | omega | (simp; done) | (simp; omega) | (have := HB.out.size; simp at *; omega)) _ | with_reducible refine Below.setCell ?_ (by first | exact Nat.le_refl _ | with_reducible exact HB.out.size | omega | (simp; done) | (simp; omega) | (have := HB.out.size; simp at *; omega)) _)⟩
      rw [HGx.out]
      exact (HGf.base (show w.heap.size ≤ w.heap.size + 1 + 1 + 1 by omega)).top (by have := HZr.out.h; simpa [World.setCell] using this)
end Go.Proofs.Yteccbcbijfcpmaa.game

/- A claim is made: the model's. -/
namespace Go.Proofs.Yteccbcbijfcpmaa.game
open Go.RowKit
open cards deal reg
set_option linter.unusedVariables false

set_option maxRecDepth 100000 in
set_option maxHeartbeats 4000000 in
theorem spec_mk (s : Int) (a0 : Nat) (l : List Cd) (sc wt : List Int) (cl : Cd) (p ps pw : Option Addr) (n c ns cs nw cw : Nat) (w : World) (ho : (Gm.mk s a0 l sc wt).okP) (hn : l.length = n) (hs : sc.length = ns) (hw : wt.length = nw) (h0 : p = none → c = 0) (hr : RdG w p ps pw l sc wt) (hc : wfc cl) :
    Calls Try.prog 71 #[gval s a0 (.slice p n c) (.slice ps ns cs) (.slice pw nw cw), cl.val] w fun e w' => ∃ vl vs vw, e = .returned (.tuple #[gval s (made ⟨s, a0, l, sc, wt⟩ cl).nx vl vs vw, .int .i64 (madeK ⟨s, a0, l, sc, wt⟩ cl)]) ∧ OwnG w' w.heap.size w'.heap.size vl vs vw (made ⟨s, a0, l, sc, wt⟩ cl).l (made ⟨s, a0, l, sc, wt⟩ cl).sc (made ⟨s, a0, l, sc, wt⟩ cl).wr ∧ Below w.heap.size w w' := by
  have hd0 : (Dl.mk s a0 l).okP := ho.d
  have hn81 : n ≤ 81 := by rw [← hn]; exact hd0.len81
  have hns1 : 0 < ns := by rw [← hs]; exact ho.p1
  have hns4 : ns ≤ 4 := by rw [← hs]; exact ho.p4
  have hnw : nw = ns := by rw [← hw, ← hs]; exact ho.eq
  subst hnw
  have HO := Lib.hid ho
  have HN := Lib.hid hn
  have HS := Lib.hid hs
  have HW := Lib.hid hw
  have HR0 := Lib.hid hr
  have H0 := Lib.hid h0
  have HD0 := Lib.hid hd0
  have HU := Lib.hid (up_ok hd0)
  have HUs := Lib.hid (up_s hd0)
  have HMk : Hid (made ⟨s, a0, l, sc, wt⟩ cl = ⟨(madeD ⟨s, a0, l, sc, wt⟩ cl).s, (madeD ⟨s, a0, l, sc, wt⟩ cl).nx, (madeD ⟨s, a0, l, sc, wt⟩ cl).l, madeS ⟨s, a0, l, sc, wt⟩ cl, madeW ⟨s, a0, l, sc, wt⟩ cl⟩) := Lib.hid rfl
  have HK : Hid (madeK ⟨s, a0, l, sc, wt⟩ cl = kind (up ⟨s, a0, l⟩).l nw cl) := Lib.hid (by rw [← hs]; rfl)
  have HMD : Hid (madeD ⟨s, a0, l, sc, wt⟩ cl = if madeK ⟨s, a0, l, sc, wt⟩ cl = 1 then takeD (up ⟨s, a0, l⟩) (plc cl) else up ⟨s, a0, l⟩) := Lib.hid rfl
  have HMS : Hid (madeS ⟨s, a0, l, sc, wt⟩ cl = if madeK ⟨s, a0, l, sc, wt⟩ cl = 1 then bump sc cl.a.toNat else sc) := Lib.hid rfl
  have HMW : Hid (madeW ⟨s, a0, l, sc, wt⟩ cl = if madeK ⟨s, a0, l, sc, wt⟩ cl = 2 then bump wt cl.a.toNat else wt) := Lib.hid rfl
  obtain ⟨G, hG⟩ : ∃ G, made ⟨s, a0, l, sc, wt⟩ cl = G := ⟨_, rfl⟩
  rw [hG] at HMk ⊢
  clear hG
  obtain ⟨kd, hkd⟩ : ∃ kd, madeK ⟨s, a0, l, sc, wt⟩ cl = kd := ⟨_, rfl⟩
  rw [hkd] at HK HMD HMS HMW ⊢
  clear hkd
  obtain ⟨MD, hMD⟩ : ∃ MD, madeD ⟨s, a0, l, sc, wt⟩ cl = MD := ⟨_, rfl⟩
  obtain ⟨MS, hMS⟩ : ∃ MS, madeS ⟨s, a0, l, sc, wt⟩ cl = MS := ⟨_, rfl⟩
  obtain ⟨MW, hMW⟩ : ∃ MW, madeW ⟨s, a0, l, sc, wt⟩ cl = MW := ⟨_, rfl⟩
  rw [hMD, hMS, hMW] at HMk
  rw [hMD] at HMD
  rw [hMS] at HMS
  rw [hMW] at HMW
  clear hMD hMS hMW
  obtain ⟨U, hU⟩ : ∃ U, up ⟨s, a0, l⟩ = U := ⟨_, rfl⟩
  rw [hU] at HU HUs HK HMD
  have HUe := Lib.hid hU
  have HCp := Lib.hid (fun w h => l8_own s a0 l sc wt p ps pw n c nw cs nw cw w hn hs hw (by omega) (by omega) (by omega) hns1 hns1 h0 h)
  clear ho hn hs hw hr h0 hd0 hU
  have K3 : Hid (CBox (((w.alloc (Gv.obj ⟨27, s, a0, .slice p n c, .slice ps nw cs, .slice pw nw cw⟩)).alloc (Cv.obj ⟨45, cl⟩)).alloc (Gv.obj ⟨27, 0, 0, .slice none 0 0, .slice none 0 0, .slice none 0 0⟩)) (w.heap.size + 1) ⟨45, cl⟩) := Lib.hid ((CBox.newAt (by simp) rfl).alloc _)
  have K4 : Hid (GBox (((w.alloc (Gv.obj ⟨27, s, a0, .slice p n c, .slice ps nw cs, .slice pw nw cw⟩)).alloc (Cv.obj ⟨45, cl⟩)).alloc (Gv.obj ⟨27, 0, 0, .slice none 0 0, .slice none 0 0, .slice none 0 0⟩)) (w.heap.size + 1 + 1) ⟨27, 0, 0, .slice none 0 0, .slice none 0 0, .slice none 0 0⟩) := Lib.hid (GBox.newAt (by simp) rfl)
  have K2 : Hid (GBox (((w.alloc (Gv.obj ⟨27, s, a0, .slice p n c, .slice ps nw cs, .slice pw nw cw⟩)).alloc (Cv.obj ⟨45, cl⟩)).alloc (Gv.obj ⟨27, 0, 0, .slice none 0 0, .slice none 0 0, .slice none 0 0⟩)) w.heap.size ⟨27, s, a0, .slice p n c, .slice ps nw cs, .slice pw nw cw⟩) := Lib.hid (((GBox.newAt rfl rfl).alloc _).alloc _)
  have HB : Hid (Below w.heap.size w (((w.alloc (Gv.obj ⟨27, s, a0, .slice p n c, .slice ps nw cs, .slice pw nw cw⟩)).alloc (Cv.obj ⟨45, cl⟩)).alloc (Gv.obj ⟨27, 0, 0, .slice none 0 0, .slice none 0 0, .slice none 0 0⟩))) := Lib.hid ((((Below.refl _ _).alloc (Nat.le_refl _) _).alloc (by simp) _).alloc (by simp; omega) _)
  go_enter Try.func71, Try.ntmps71
  go_upto_region 1 with fail
  generalize (((w.alloc (Gv.obj ⟨27, s, a0, .slice p n c, .slice ps nw cs, .slice pw nw cw⟩)).alloc (Cv.obj ⟨45, cl⟩)).alloc (Gv.obj ⟨27, 0, 0, .slice none 0 0, .slice none 0 0, .slice none 0 0⟩)) = W0 at K2 K3 K4 HB ⊢
  have HZ0 := Lib.hid (show w.heap.size + 1 + 1 + 1 ≤ W0.heap.size from K4.out.lt)
  obtain ⟨k2a, k2b, k2c, k2d, k2e⟩ := K2.out.cell
  have k2z := K2.out.lt
  have HR := Lib.hid (RdG.below HR0.out HB.out)
  go_wp2_with fail
  refine (HCp.out _ (by repeat (first | with_reducible exact HR.out | with_reducible apply RdG.drewN | with_reducible apply RdG.drew | with_reducible apply RdG.alloc))).mono ?_
  rintro e w1 ⟨vl, vs, vw, rfl, hg1, b⟩
  have HB1 := Lib.hid (chain0 (w := w) HB.out b)
  have K31 := Lib.hid (K3.out.below b)
  have K41 := Lib.hid (K4.out.below b)
  have HG1 := Lib.hid (hg1.base (show w.heap.size + 1 + 1 + 1 ≤ W0.heap.size from HZ0.out))
  have HZ1 := Lib.hid (Nat.le_trans HZ0.out b.size)
  clear b hg1 k2a k2b k2c k2d k2e k2z HB K2 K3 K4 HR
  obtain ⟨gs, cs1, rfl⟩ := own_ps HG1.out.o2 HS.out hns1
  obtain ⟨gw, cw1, rfl⟩ := own_ps HG1.out.o3 HW.out hns1
  obtain ⟨p1, c1, rfl, -⟩ := HG1.out.o1.form
  rw [HN.out] at HG1 ⊢
  have K6 : Hid (GBox (w1.alloc (Gv.obj ⟨27, s, a0, .slice p1 n c1, .slice (some ⟨gs, 0, none⟩) nw cs1, .slice (some ⟨gw, 0, none⟩) nw cw1⟩)) w1.heap.size ⟨27, s, a0, .slice p1 n c1, .slice (some ⟨gs, 0, none⟩) nw cs1, .slice (some ⟨gw, 0, none⟩) nw cw1⟩) := Lib.hid (GBox.newAt rfl rfl)
  have HB2 := Lib.hid (HB1.out.alloc HB1.out.size (Gv.obj ⟨27, s, a0, .slice p1 n c1, .slice (some ⟨gs, 0, none⟩) nw cs1, .slice (some ⟨gw, 0, none⟩) nw cw1⟩))
  have K32 := Lib.hid (K31.out.alloc (Gv.obj ⟨27, s, a0, .slice p1 n c1, .slice (some ⟨gs, 0, none⟩) nw cs1, .slice (some ⟨gw, 0, none⟩) nw cw1⟩))
  have K42 := Lib.hid (K41.out.alloc (Gv.obj ⟨27, s, a0, .slice p1 n c1, .slice (some ⟨gs, 0, none⟩) nw cs1, .slice (some ⟨gw, 0, none⟩) nw cw1⟩))
  have HG2 := Lib.hid (HG1.out.alloc (Gv.obj ⟨27, s, a0, .slice p1 n c1, .slice (some ⟨gs, 0, none⟩) nw cs1, .slice (some ⟨gw, 0, none⟩) nw cw1⟩))
  obtain ⟨g6, hg6⟩ : ∃ g6, w1.heap.size = g6 := ⟨_, rfl⟩
  rw [hg6] at K6
  have HG6 := Lib.hid (show w.heap.size + 1 + 1 + 1 ≤ g6 by have := HZ1.out; omega)
  go_upto_block 0 with fail
  try rw [hg6]
  have HC6 := Lib.hid (show g6 ≤ (w1.alloc (Gv.obj ⟨27, s, a0, .slice p1 n c1, .slice (some ⟨gs, 0, none⟩) nw cs1, .slice (some ⟨gw, 0, none⟩) nw cw1⟩)).heap.size by have := K6.out.lt; omega)
  rw [hg6] at HG2
  clear hg6
  have HG3 := Lib.hid (HG2.out.top HC6.out)
  clear HG1 K31 K41 HB1 HG2 HZ1 HZ0
  generalize (w1.alloc (Gv.obj ⟨27, s, a0, .slice p1 n c1, .slice (some ⟨gs, 0, none⟩) nw cs1, .slice (some ⟨gw, 0, none⟩) nw cw1⟩)) = W2 at K6 HB2 K32 K42 HG3 HC6 ⊢
  clear w1
  go_cut [] from 8 (fun wx => ∃ (a : Nat) (m : Nat) (L : List Cd) (p2 : Option Addr) (c2 : Nat), m ≤ 81 ∧ a ≤ 81 ∧ L.length = m ∧ Hid (U = ⟨s, a, L⟩) ∧ Hid (GBox wx g6 ⟨27, s, a, .slice p2 m c2, .slice (some ⟨gs, 0, none⟩) nw cs1, .slice (some ⟨gw, 0, none⟩) nw cw1⟩) ∧ Hid (OwnG wx (w.heap.size + 1 + 1 + 1) wx.heap.size (.slice p2 m c2) (.slice (some ⟨gs, 0, none⟩) nw cs1) (.slice (some ⟨gw, 0, none⟩) nw cw1) L sc wt) ∧ Hid (Below w.heap.size w wx) ∧ Hid (CBox wx (w.heap.size + 1) ⟨45, cl⟩) ∧ Hid (GBox wx (w.heap.size + 1 + 1) ⟨27, 0, 0, .slice none 0 0, .slice none 0 0, .slice none 0 0⟩))
  case first =>
    go_wp2_with fail
    go_loopg [] 81 (fun k wr => ∃ (a : Nat) (m : Nat) (L : List Cd) (p2 : Option Addr) (c2 : Nat), m ≤ 81 ∧ a ≤ 81 ∧ 81 - a ≤ k ∧ L.length = m ∧ Hid (up ⟨s, a, L⟩ = U) ∧ Hid ((Dl.mk s a L).okP) ∧ Hid (GBox wr g6 ⟨27, s, a, .slice p2 m c2, .slice (some ⟨gs, 0, none⟩) nw cs1, .slice (some ⟨gw, 0, none⟩) nw cw1⟩) ∧ Hid (OwnG wr (w.heap.size + 1 + 1 + 1) wr.heap.size (.slice p2 m c2) (.slice (some ⟨gs, 0, none⟩) nw cs1) (.slice (some ⟨gw, 0, none⟩) nw cw1) L sc wt) ∧ Hid (Below w.heap.size w wr) ∧ Hid (CBox wr (w.heap.size + 1) ⟨45, cl⟩) ∧ Hid (GBox wr (w.heap.size + 1 + 1) ⟨27, 0, 0, .slice none 0 0, .slice none 0 0, .slice none 0 0⟩))
    case atStart => exact ⟨a0, n, l, p1, c1, hn81, (by have := HD0.out.2.1.2; simp only at this; omega), by omega, HN.out, HUe, HD0, K6, HG3, HB2, K32, K42⟩
    case round =>
      clear K6 HB2 K32 K42 HG3 HC6
      obtain ⟨a, m, L, p2, c2, hm, ha, hk, hLm, HUe2, HOk, K6, HG, HB, K3, K4⟩ := hrel
      obtain ⟨k6a, k6b, k6c, k6d, k6e⟩ := K6.out.cell
      have k6z := K6.out.lt
      have k6f := K6.out.frozen
      have HLm := Lib.hid hLm
      have HR := Lib.hid (Own.rd HG.out.o1)
      have HZr : Hid (SzA wr wr.heap.size) := Lib.hid ⟨Nat.le_refl _⟩
      have HLi := Lib.hid (fun w h => l4_lines L p2 m c2 w hLm hm h HOk.out.cards HOk.out.2.2.2)
      have HN0 := Lib.hid (Own.nil0 HG.out.o1)
      obtain ⟨z, hz⟩ : ∃ z, (lines L).length = z := ⟨_, rfl⟩
      have HZl := Lib.hid hz
      have hst : stuckD ⟨s, a, L⟩ = decide (z = 0) := by rw [← hz]; unfold stuckD; cases lines L <;> simp
      clear hLm hz
      by_cases hz0 : z = 0
      · subst hz0
        have hst : stuckD ⟨s, a, L⟩ = true := by rw [hst]; rfl
        by_cases ha81 : a < 81
        · have HGo : Hid ((Dl.mk s a L).nx < 81) := Lib.hid (show (a : Int) < 81 by omega)
          have hup := up_go HOk.out ⟨hst, HGo.out⟩
          have hnx := lay3_nx HOk.out HGo.out
          have hlok := lay_ok (n := 3) HOk.out (by omega)
          have HLy := Lib.hid (fun w h => l4_lay s a 3 L p2 m c2 w HOk.out.1 ha ⟨by omega, by omega⟩ HLm.out (by omega) h HN0.out)
          obtain ⟨L2, hL2⟩ : ∃ L2, (layD ⟨s, a, L⟩ 3).l = L2 := ⟨_, rfl⟩
          obtain ⟨a2, ha2⟩ : ∃ a2 : Nat, (layD ⟨s, a, L⟩ 3).nx = (a2 : Int) := ⟨(layD ⟨s, a, L⟩ 3).nx.toNat, by have := hlok.2.1.1; omega⟩
          have hD2 : layD ⟨s, a, L⟩ 3 = ⟨s, a2, L2⟩ := by rw [← ha2, ← hL2]; rfl
          obtain ⟨m2, hm2⟩ : ∃ m2, L2.length = m2 := ⟨_, rfl⟩
          rw [hL2, ha2] at HLy
          rw [hD2] at hup hlok
          rw [ha2] at hnx
          have hm81 : m2 ≤ 81 := by rw [← hm2]; exact hlok.len81
          have HOk2 := Lib.hid hlok
          have HUp2 := Lib.hid (hup.symm.trans HUe2.out)
          have HLm2 := Lib.hid hm2
          have HNx := Lib.hid hnx
          clear hst hup hnx hlok hL2 ha2 hD2 hm2 HGo
          have m81 : (a : Int) < 81 := by omega
          go_wp2_with fail
          refine (HLi.out _ (by repeat (first | with_reducible exact HR.out | with_reducible apply Rd.drewN | with_reducible apply Rd.drew | with_reducible apply Rd.alloc))).mono ?_
          rintro e w4 ⟨u, rfl, hu, b⟩
          obtain ⟨pu, cu, rfl, -⟩ := hu.form
          rw [HZl.out]
          have Sw4 := Lib.hid b.size
          have HB := Lib.hid (chain0 (w := w) (by repeat (first | with_reducible exact Below.refl _ _ | with_reducible exact HB.out | with_reducible apply Below.drew | with_reducible apply bdN | with_reducible refine Below.alloc ?_ (by first | exact Nat.le_refl _ | with_reducible exact HB.out.size | omega | (simp; done) | (simp; omega) | (have := HB.out.size; simp at *; omega)) _ | with_reducible refine Below.setCell ?_ (by first | exact Nat.le_refl _ | with_reducible exact HB.out.size | omega | (simp; done) | (simp; omega) | (have := HB.out.size; simp at *; omega)) _)) b)
          have HZr := Lib.hid (SzA.below (by repeat (first | with_reducible exact HZr.out | with_reducible apply SzA.drewN | with_reducible apply SzA.drew | with_reducible apply SzA.alloc)) b)
          have HG := Lib.hid (OwnG.below (by repeat (first | with_reducible exact HG.out | with_reducible apply OwnG.drewN | with_reducible apply OwnG.drew | with_reducible apply OwnG.alloc)) b)
          have HR := Lib.hid (Rd.below (by repeat (first | with_reducible exact HR.out | with_reducible apply Rd.drewN | with_reducible apply Rd.drew | with_reducible apply Rd.alloc)) b)
          have K6 : Hid (GBox _ (g6) (⟨27, s, a, .slice p2 m c2, .slice (some ⟨gs, 0, none⟩) nw cs1, .slice (some ⟨gw, 0, none⟩) nw cw1⟩)) := Lib.hid (GBox.below (by repeat (first | with_reducible exact K6.out | with_reducible apply GBox.drewN | with_reducible apply GBox.drew | (with_reducible refine GBox.newAt ?_ ?_ <;> first | (simp; done) | rfl) | with_reducible apply GBox.alloc)) b)
          have K3 : Hid (CBox _ (w.heap.size + 1) (⟨45, cl⟩)) := Lib.hid (CBox.below (by repeat (first | with_reducible exact K3.out | with_reducible apply CBox.drewN | with_reducible apply CBox.drew | (with_reducible refine CBox.newAt ?_ ?_ <;> first | (simp; done) | rfl) | with_reducible apply CBox.alloc)) b)
          have K4 : Hid (GBox _ (w.heap.size + 1 + 1) (⟨27, 0, 0, .slice none 0 0, .slice none 0 0, .slice none 0 0⟩)) := Lib.hid (GBox.below (by repeat (first | with_reducible exact K4.out | with_reducible apply GBox.drewN | with_reducible apply GBox.drew | (with_reducible refine GBox.newAt ?_ ?_ <;> first | (simp; done) | rfl) | with_reducible apply GBox.alloc)) b)
          try clear k6a k6b k6c k6d k6e k6z
          have k6z := K6.out.lt
          obtain ⟨k6a, k6b, k6c, k6d, k6e⟩ := K6.out.cell
          try clear k6f
          have k6f := K6.out.frozen
          try clear k3a k3b k3c k3d k3z
          have k3z := K3.out.lt
          obtain ⟨k3a, k3b, k3c, k3d⟩ := K3.out.cell
          try clear k4a k4b k4c k4d k4e k4z
          have k4z := K4.out.lt
          obtain ⟨k4a, k4b, k4c, k4d, k4e⟩ := K4.out.cell
          clear b
          clear hu
          go_wp2_with fail
          refine (HLy.out _ (by repeat (first | with_reducible exact HR.out | with_reducible apply Rd.drewN | with_reducible apply Rd.drew | with_reducible apply Rd.alloc))).mono ?_
          rintro e w5 ⟨u, rfl, hu, b⟩
          obtain ⟨p3, c3, rfl, -⟩ := hu.form
          rw [HLm2.out] at hu ⊢
          have HGn := Lib.hid (OwnG.newL HG.out b hu (by have := HG.out.o2.span gs rfl; have := HG.out.c2 gs rfl; omega) HZr.out.h)
          have Sw5 := Lib.hid b.size
          have HB := Lib.hid (chain0 (w := w) (by repeat (first | with_reducible exact Below.refl _ _ | with_reducible exact HB.out | with_reducible apply Below.drew | with_reducible apply bdN | with_reducible refine Below.alloc ?_ (by first | exact Nat.le_refl _ | with_reducible exact HB.out.size | omega | (simp; done) | (simp; omega) | (have := HB.out.size; simp at *; omega)) _ | with_reducible refine Below.setCell ?_ (by first | exact Nat.le_refl _ | with_reducible exact HB.out.size | omega | (simp; done) | (simp; omega) | (have := HB.out.size; simp at *; omega)) _)) b)
          have HZr := Lib.hid (SzA.below (by repeat (first | with_reducible exact HZr.out | with_reducible apply SzA.drewN | with_reducible apply SzA.drew | with_reducible apply SzA.alloc)) b)
          have HG := Lib.hid (OwnG.below (by repeat (first | with_reducible exact HG.out | with_reducible apply OwnG.drewN | with_reducible apply OwnG.drew | with_reducible apply OwnG.alloc)) b)
          have HR := Lib.hid (Rd.below (by repeat (first | with_reducible exact HR.out | with_reducible apply Rd.drewN | with_reducible apply Rd.drew | with_reducible apply Rd.alloc)) b)
          have K6 : Hid (GBox _ (g6) (⟨27, s, a, .slice p2 m c2, .slice (some ⟨gs, 0, none⟩) nw cs1, .slice (some ⟨gw, 0, none⟩) nw cw1⟩)) := Lib.hid (GBox.below (by repeat (first | with_reducible exact K6.out | with_reducible apply GBox.drewN | with_reducible apply GBox.drew | (with_reducible refine GBox.newAt ?_ ?_ <;> first | (simp; done) | rfl) | with_reducible apply GBox.alloc)) b)
          have K3 : Hid (CBox _ (w.heap.size + 1) (⟨45, cl⟩)) := Lib.hid (CBox.below (by repeat (first | with_reducible exact K3.out | with_reducible apply CBox.drewN | with_reducible apply CBox.drew | (with_reducible refine CBox.newAt ?_ ?_ <;> first | (simp; done) | rfl) | with_reducible apply CBox.alloc)) b)
          have K4 : Hid (GBox _ (w.heap.size + 1 + 1) (⟨27, 0, 0, .slice none 0 0, .slice none 0 0, .slice none 0 0⟩)) := Lib.hid (GBox.below (by repeat (first | with_reducible exact K4.out | with_reducible apply GBox.drewN | with_reducible apply GBox.drew | (with_reducible refine GBox.newAt ?_ ?_ <;> first | (simp; done) | rfl) | with_reducible apply GBox.alloc)) b)
          try clear k6a k6b k6c k6d k6e k6z
          have k6z := K6.out.lt
          obtain ⟨k6a, k6b, k6c, k6d, k6e⟩ := K6.out.cell
          try clear k6f
          have k6f := K6.out.frozen
          try clear k3a k3b k3c k3d k3z
          have k3z := K3.out.lt
          obtain ⟨k3a, k3b, k3c, k3d⟩ := K3.out.cell
          try clear k4a k4b k4c k4d k4e k4z
          have k4z := K4.out.lt
          obtain ⟨k4a, k4b, k4c, k4d, k4e⟩ := K4.out.cell
          clear b
          clear hu HG
          have hds := deal_sets K6.out s a2 (.slice p3 m2 c3)
          have HG5 := Lib.hid ((HGn.out.off hds.2 (offG HGn.out K6.out rfl)).top hds.2.size)
          have K65 := Lib.hid hds.1
          have HB5 := Lib.hid (game.Below.by_ HB.out hds.2 HB.out.size (by have := HG6.out; omega))
          have K35 := Lib.hid (K3.out.grown hds.2 (by have := HG6.out; omega))
          have K45 := Lib.hid (K4.out.grown hds.2 (by have := HG6.out; omega))
          clear hds
          go_wp2_with fail
          go_roundg (81 - a2)
          case measure => have := HNx.out; omega
          case rel => exact ⟨a2, m2, L2, p3, c3, hm81, (by have := HNx.out; omega), Nat.le_refl _, HLm2.out, HUp2, HOk2, K65, HG5, HB5, K35, K45⟩
        · have HE := Lib.hid (HUe2.out.symm.trans (up_stop (fun h => by have h2 : (a : Int) < 81 := h.2; omega)))
          have m81 : ¬ (a : Int) < 81 := by omega
          clear hst
          go_wp2_with fail
          refine (HLi.out _ (by repeat (first | with_reducible exact HR.out | with_reducible apply Rd.drewN | with_reducible apply Rd.drew | with_reducible apply Rd.alloc))).mono ?_
          rintro e w4 ⟨u, rfl, hu, b⟩
          obtain ⟨pu, cu, rfl, -⟩ := hu.form
          rw [HZl.out]
          have Sw4 := Lib.hid b.size
          have HB := Lib.hid (chain0 (w := w) (by repeat (first | with_reducible exact Below.refl _ _ | with_reducible exact HB.out | with_reducible apply Below.drew | with_reducible apply bdN | with_reducible refine Below.alloc ?_ (by first | exact Nat.le_refl _ | with_reducible exact HB.out.size | omega | (simp; done) | (simp; omega) | (have := HB.out.size; simp at *; omega)) _ | with_reducible refine Below.setCell ?_ (by first | exact Nat.le_refl _ | with_reducible exact HB.out.size | omega | (simp; done) | (simp; omega) | (have := HB.out.size; simp at *; omega)) _)) b)
          have HZr := Lib.hid (SzA.below (by repeat (first | with_reducible exact HZr.out | with_reducible apply SzA.drewN | with_reducible apply SzA.drew | with_reducible apply SzA.alloc)) b)
          have HG := Lib.hid (OwnG.below (by repeat (first | with_reducible exact HG.out | with_reducible apply OwnG.drewN | with_reducible apply OwnG.drew | with_reducible apply OwnG.alloc)) b)
          have HR := Lib.hid (Rd.below (by repeat (first | with_reducible exact HR.out | with_reducible apply Rd.drewN | with_reducible apply Rd.drew | with_reducible apply Rd.alloc)) b)
          have K6 : Hid (GBox _ (g6) (⟨27, s, a, .slice p2 m c2, .slice (some ⟨gs, 0, none⟩) nw cs1, .slice (some ⟨gw, 0, none⟩) nw cw1⟩)) := Lib.hid (GBox.below (by repeat (first | with_reducible exact K6.out | with_reducible apply GBox.drewN | with_reducible apply GBox.drew | (with_reducible refine GBox.newAt ?_ ?_ <;> first | (simp; done) | rfl) | with_reducible apply GBox.alloc)) b)
          have K3 : Hid (CBox _ (w.heap.size + 1) (⟨45, cl⟩)) := Lib.hid (CBox.below (by repeat (first | with_reducible exact K3.out | with_reducible apply CBox.drewN | with_reducible apply CBox.drew | (with_reducible refine CBox.newAt ?_ ?_ <;> first | (simp; done) | rfl) | with_reducible apply CBox.alloc)) b)
          have K4 : Hid (GBox _ (w.heap.size + 1 + 1) (⟨27, 0, 0, .slice none 0 0, .slice none 0 0, .slice none 0 0⟩)) := Lib.hid (GBox.below (by repeat (first | with_reducible exact K4.out | with_reducible apply GBox.drewN | with_reducible apply GBox.drew | (with_reducible refine GBox.newAt ?_ ?_ <;> first | (simp; done) | rfl) | with_reducible apply GBox.alloc)) b)
          try clear k6a k6b k6c k6d k6e k6z
          have k6z := K6.out.lt
          obtain ⟨k6a, k6b, k6c, k6d, k6e⟩ := K6.out.cell
          try clear k6f
          have k6f := K6.out.frozen
          try clear k3a k3b k3c k3d k3z
          have k3z := K3.out.lt
          obtain ⟨k3a, k3b, k3c, k3d⟩ := K3.out.cell
          try clear k4a k4b k4c k4d k4e k4z
          have k4z := K4.out.lt
          obtain ⟨k4a, k4b, k4c, k4d, k4e⟩ := K4.out.cell
          clear b
          clear hu
          go_wp2_with fail
          go_meet
          case rel => exact ⟨a, m, L, p2, c2, hm, ha, HLm.out, HE, K6, HG.out.top HZr.out.h, HB, K3, K4⟩
      · have HE := Lib.hid (HUe2.out.symm.trans (up_stop (fun h => by have h1 := h.1; rw [hst] at h1; exact hz0 (of_decide_eq_true h1))))
        have hmz : ((z : Int) == 0) = false := by simp; omega
        have hmp : (0 : Int) < (z : Int) := by omega
        clear hst
        go_wp2_with fail
        refine (HLi.out _ (by repeat (first | with_reducible exact HR.out | with_reducible apply Rd.drewN | with_reducible apply Rd.drew | with_reducible apply Rd.alloc))).mono ?_
        rintro e w4 ⟨u, rfl, hu, b⟩
        obtain ⟨pu, cu, rfl, -⟩ := hu.form
        rw [HZl.out]
        have Sw4 := Lib.hid b.size
        have HB := Lib.hid (chain0 (w := w) (by repeat (first | with_reducible exact Below.refl _ _ | with_reducible exact HB.out | with_reducible apply Below.drew | with_reducible apply bdN | with_reducible refine Below.alloc ?_ (by first | exact Nat.le_refl _ | with_reducible exact HB.out.size | omega | (simp; done) | (simp; omega) | (have := HB.out.size; simp at *; omega)) _ | with_reducible refine Below.setCell ?_ (by first | exact Nat.le_refl _ | with_reducible exact HB.out.size | omega | (simp; done) | (simp; omega) | (have := HB.out.size; simp at *; omega)) _)) b)
        have HZr := Lib.hid (SzA.below (by repeat (first | with_reducible exact HZr.out | with_reducible apply SzA.drewN | with_reducible apply SzA.drew | with_reducible apply SzA.alloc)) b)
        have HG := Lib.hid (OwnG.below (by repeat (first | with_reducible exact HG.out | with_reducible apply OwnG.drewN | with_reducible apply OwnG.drew | with_reducible apply OwnG.alloc)) b)
        have HR := Lib.hid (Rd.below (by repeat (first | with_reducible exact HR.out | with_reducible apply Rd.drewN | with_reducible apply Rd.drew | with_reducible apply Rd.alloc)) b)
        have K6 : Hid (GBox _ (g6) (⟨27, s, a, .slice p2 m c2, .slice (some ⟨gs, 0, none⟩) nw cs1, .slice (some ⟨gw, 0, none⟩) nw cw1⟩)) := Lib.hid (GBox.below (by repeat (first | with_reducible exact K6.out | with_reducible apply GBox.drewN | with_reducible apply GBox.drew | (with_reducible refine GBox.newAt ?_ ?_ <;> first | (simp; done) | rfl) | with_reducible apply GBox.alloc)) b)
        have K3 : Hid (CBox _ (w.heap.size + 1) (⟨45, cl⟩)) := Lib.hid (CBox.below (by repeat (first | with_reducible exact K3.out | with_reducible apply CBox.drewN | with_reducible apply CBox.drew | (with_reducible refine CBox.newAt ?_ ?_ <;> first | (simp; done) | rfl) | with_reducible apply CBox.alloc)) b)
        have K4 : Hid (GBox _ (w.heap.size + 1 + 1) (⟨27, 0, 0, .slice none 0 0, .slice none 0 0, .slice none 0 0⟩)) := Lib.hid (GBox.below (by repeat (first | with_reducible exact K4.out | with_reducible apply GBox.drewN | with_reducible apply GBox.drew | (with_reducible refine GBox.newAt ?_ ?_ <;> first | (simp; done) | rfl) | with_reducible apply GBox.alloc)) b)
        try clear k6a k6b k6c k6d k6e k6z
        have k6z := K6.out.lt
        obtain ⟨k6a, k6b, k6c, k6d, k6e⟩ := K6.out.cell
        try clear k6f
        have k6f := K6.out.frozen
        try clear k3a k3b k3c k3d k3z
        have k3z := K3.out.lt
        obtain ⟨k3a, k3b, k3c, k3d⟩ := K3.out.cell
        try clear k4a k4b k4c k4d k4e k4z
        have k4z := K4.out.lt
        obtain ⟨k4a, k4b, k4c, k4d, k4e⟩ := K4.out.cell
        clear b
        clear hu
        go_wp2_with fail
        go_meet
        case rel => exact ⟨a, m, L, p2, c2, hm, ha, HLm.out, HE, K6, HG.out.top HZr.out.h, HB, K3, K4⟩
  case rest =>
    clear K6 HB2 K32 K42 HG3 HC6
    obtain ⟨a, m, L, p2, c2, hm, ha, hLm, HUe2, K6, HG, HB, K3, K4⟩ := hcut
    obtain ⟨k6a, k6b, k6c, k6d, k6e⟩ := K6.out.cell
    have k6z := K6.out.lt
    have k6f := K6.out.frozen
    obtain ⟨k3a, k3b, k3c, k3d⟩ := K3.out.cell
    have k3z := K3.out.lt
    obtain ⟨k4a, k4b, k4c, k4d, k4e⟩ := K4.out.cell
    have k4z := K4.out.lt
    have k4f := K4.out.frozen
    have HLm := Lib.hid hLm
    have HOk : Hid ((Dl.mk s a L).okP) := Lib.hid (HUe2.out ▸ HU.out)
    have HR := Lib.hid (Own.rd HG.out.o1)
    have HZr : Hid (SzA wc wc.heap.size) := Lib.hid ⟨Nat.le_refl _⟩
    have hU2 := HUe2.out
    rw [hU2] at HK HMD
    have HKk := Lib.hid (fun w h => l8_kind s a L cl p2 (some ⟨gs, 0, none⟩) (some ⟨gw, 0, none⟩) m c2 nw cs1 nw cw1 w hLm hm (by omega) h HOk.out.cards HOk.out.2.2.2 hc)
    have HTk := Lib.hid (fun w h => l4_take s a L (plc cl) p2 m c2 w HOk.out.1 ha hLm hm h)
    have HKd : Hid (kd = kind L nw cl) := Lib.hid HK.out
    rw [← HKd.out] at HKk
    have hk3 := kind_bd L nw cl
    rw [← HKd.out] at hk3
    clear hU2 HUe2 HU HUs HK hLm HR0 HCp HUe
    rcases hk3 with rfl | rfl | rfl
    · have hq := kind_p (l := L) (n := nw) (c := cl) (by rw [← HKd.out]; decide)
      obtain ⟨q, hqe⟩ : ∃ q : Nat, cl.a = (q : Int) := ⟨cl.a.toNat, by omega⟩
      have hqn : q < nw := by omega
      have hlok := take_ok' (t := plc cl) HOk.out
      obtain ⟨L2, hL2⟩ : ∃ L2, (takeD ⟨s, a, L⟩ (plc cl)).l = L2 := ⟨_, rfl⟩
      obtain ⟨a2, ha2⟩ : ∃ a2 : Nat, (takeD ⟨s, a, L⟩ (plc cl)).nx = (a2 : Int) := ⟨(takeD ⟨s, a, L⟩ (plc cl)).nx.toNat, by have := hlok.2.1.1; omega⟩
      have hD2 : takeD ⟨s, a, L⟩ (plc cl) = ⟨s, a2, L2⟩ := by rw [← ha2, ← hL2]; rfl
      obtain ⟨m2, hm2⟩ : ∃ m2, L2.length = m2 := ⟨_, rfl⟩
      rw [hL2, ha2] at HTk
      have HLm2 := Lib.hid hm2
      have HGx : Hid (G = ⟨s, a2, L2, bump sc q, wt⟩) := Lib.hid (by have h1 := HMD.out; have h2 := HMS.out; have h3 := HMW.out; rw [if_neg (by decide)] at h3; rw [if_pos rfl, hqe] at h2; rw [if_pos rfl, hD2] at h1; rw [HMk.out, h1, h2, h3]; rfl)
      have HQe := Lib.hid hqe
      clear HMD HMS HMW HMk HKd hq hqe hD2 hm2 hL2 ha2 hlok
      go_wp2_with fail
      refine ((HKk.out _ (by repeat (first | with_reducible exact HR.out | with_reducible apply Rd.drewN | with_reducible apply Rd.drew | with_reducible apply Rd.alloc)))).mono ?_
      rintro e w3 ⟨rfl, b⟩
      have Sw3 := Lib.hid b.size
      have HB := Lib.hid (chain0 (w := w) (by repeat (first | with_reducible exact Below.refl _ _ | with_reducible exact HB.out | with_reducible apply Below.drew | with_reducible apply bdN | with_reducible refine Below.alloc ?_ (by first | exact Nat.le_refl _ | with_reducible exact HB.out.size | omega | (simp; done) | (simp; omega) | (have := HB.out.size; simp at *; omega)) _ | with_reducible refine Below.setCell ?_ (by first | exact Nat.le_refl _ | with_reducible exact HB.out.size | omega | (simp; done) | (simp; omega) | (have := HB.out.size; simp at *; omega)) _)) b)
      have HZr := Lib.hid (SzA.below (by repeat (first | with_reducible exact HZr.out | with_reducible apply SzA.drewN | with_reducible apply SzA.drew | with_reducible apply SzA.alloc)) b)
      have HG := Lib.hid (OwnG.below (by repeat (first | with_reducible exact HG.out | with_reducible apply OwnG.drewN | with_reducible apply OwnG.drew | with_reducible apply OwnG.alloc)) b)
      have HR := Lib.hid (Rd.below (by repeat (first | with_reducible exact HR.out | with_reducible apply Rd.drewN | with_reducible apply Rd.drew | with_reducible apply Rd.alloc)) b)
      have K6 : Hid (GBox _ (g6) (⟨27, s, a, .slice p2 m c2, .slice (some ⟨gs, 0, none⟩) nw cs1, .slice (some ⟨gw, 0, none⟩) nw cw1⟩)) := Lib.hid (GBox.below (by repeat (first | with_reducible exact K6.out | with_reducible apply GBox.drewN | with_reducible apply GBox.drew | (with_reducible refine GBox.newAt ?_ ?_ <;> first | (simp; done) | rfl) | with_reducible apply GBox.alloc)) b)
      have K3 : Hid (CBox _ (w.heap.size + 1) (⟨45, cl⟩)) := Lib.hid (CBox.below (by repeat (first | with_reducible exact K3.out | with_reducible apply CBox.drewN | with_reducible apply CBox.drew | (with_reducible refine CBox.newAt ?_ ?_ <;> first | (simp; done) | rfl) | with_reducible apply CBox.alloc)) b)
      have K4 : Hid (GBox _ (w.heap.size + 1 + 1) (⟨27, 0, 0, .slice none 0 0, .slice none 0 0, .slice none 0 0⟩)) := Lib.hid (GBox.below (by repeat (first | with_reducible exact K4.out | with_reducible apply GBox.drewN | with_reducible apply GBox.drew | (with_reducible refine GBox.newAt ?_ ?_ <;> first | (simp; done) | rfl) | with_reducible apply GBox.alloc)) b)
      try clear k6a k6b k6c k6d k6e k6z
      have k6z := K6.out.lt
      obtain ⟨k6a, k6b, k6c, k6d, k6e⟩ := K6.out.cell
      try clear k6f
      have k6f := K6.out.frozen
      try clear k3a k3b k3c k3d k3z
      have k3z := K3.out.lt
      obtain ⟨k3a, k3b, k3c, k3d⟩ := K3.out.cell
      try clear k4a k4b k4c k4d k4e k4z
      have k4z := K4.out.lt
      obtain ⟨k4a, k4b, k4c, k4d, k4e⟩ := K4.out.cell
      try clear k4f
      have k4f := K4.out.frozen
      clear b
      go_wp2_with fail
      refine (HTk.out _ (by repeat (first | with_reducible exact HR.out | with_reducible apply Rd.drewN | with_reducible apply Rd.drew | with_reducible apply Rd.alloc))).mono ?_
      rintro e w5 ⟨u, rfl, hu, b⟩
      obtain ⟨p3, c3, rfl, -⟩ := hu.form
      rw [HLm2.out] at hu ⊢
      have HGn := Lib.hid (OwnG.newL HG.out b hu (by have := HG.out.o2.span gs rfl; have := HG.out.c2 gs rfl; omega) HZr.out.h)
      have Sw5 := Lib.hid b.size
      have HB := Lib.hid (chain0 (w := w) (by repeat (first | with_reducible exact Below.refl _ _ | with_reducible exact HB.out | with_reducible apply Below.drew | with_reducible apply bdN | with_reducible refine Below.alloc ?_ (by first | exact Nat.le_refl _ | with_reducible exact HB.out.size | omega | (simp; done) | (simp; omega) | (have := HB.out.size; simp at *; omega)) _ | with_reducible refine Below.setCell ?_ (by first | exact Nat.le_refl _ | with_reducible exact HB.out.size | omega | (simp; done) | (simp; omega) | (have := HB.out.size; simp at *; omega)) _)) b)
      have HZr := Lib.hid (SzA.below (by repeat (first | with_reducible exact HZr.out | with_reducible apply SzA.drewN | with_reducible apply SzA.drew | with_reducible apply SzA.alloc)) b)
      have HG := Lib.hid (OwnG.below (by repeat (first | with_reducible exact HG.out | with_reducible apply OwnG.drewN | with_reducible apply OwnG.drew | with_reducible apply OwnG.alloc)) b)
      have HR := Lib.hid (Rd.below (by repeat (first | with_reducible exact HR.out | with_reducible apply Rd.drewN | with_reducible apply Rd.drew | with_reducible apply Rd.alloc)) b)
      have K6 : Hid (GBox _ (g6) (⟨27, s, a, .slice p2 m c2, .slice (some ⟨gs, 0, none⟩) nw cs1, .slice (some ⟨gw, 0, none⟩) nw cw1⟩)) := Lib.hid (GBox.below (by repeat (first | with_reducible exact K6.out | with_reducible apply GBox.drewN | with_reducible apply GBox.drew | (with_reducible refine GBox.newAt ?_ ?_ <;> first | (simp; done) | rfl) | with_reducible apply GBox.alloc)) b)
      have K3 : Hid (CBox _ (w.heap.size + 1) (⟨45, cl⟩)) := Lib.hid (CBox.below (by repeat (first | with_reducible exact K3.out | with_reducible apply CBox.drewN | with_reducible apply CBox.drew | (with_reducible refine CBox.newAt ?_ ?_ <;> first | (simp; done) | rfl) | with_reducible apply CBox.alloc)) b)
      have K4 : Hid (GBox _ (w.heap.size + 1 + 1) (⟨27, 0, 0, .slice none 0 0, .slice none 0 0, .slice none 0 0⟩)) := Lib.hid (GBox.below (by repeat (first | with_reducible exact K4.out | with_reducible apply GBox.drewN | with_reducible apply GBox.drew | (with_reducible refine GBox.newAt ?_ ?_ <;> first | (simp; done) | rfl) | with_reducible apply GBox.alloc)) b)
      try clear k6a k6b k6c k6d k6e k6z
      have k6z := K6.out.lt
      obtain ⟨k6a, k6b, k6c, k6d, k6e⟩ := K6.out.cell
      try clear k6f
      have k6f := K6.out.frozen
      try clear k3a k3b k3c k3d k3z
      have k3z := K3.out.lt
      obtain ⟨k3a, k3b, k3c, k3d⟩ := K3.out.cell
      try clear k4a k4b k4c k4d k4e k4z
      have k4z := K4.out.lt
      obtain ⟨k4a, k4b, k4c, k4d, k4e⟩ := K4.out.cell
      try clear k4f
      have k4f := K4.out.frozen
      clear b
      clear hu HG
      have hds := deal_sets K6.out s a2 (.slice p3 m2 c3)
      have HG5 := Lib.hid ((HGn.out.off hds.2 (offG HGn.out K6.out rfl)).top hds.2.size)
      have K65 := Lib.hid hds.1
      have HB5 := Lib.hid (game.Below.by_ HB.out hds.2 HB.out.size (by have := HG6.out; omega))
      have K35 := Lib.hid (K3.out.grown hds.2 (by have := HG6.out; omega))
      have K45 := Lib.hid (K4.out.grown hds.2 (by have := HG6.out; omega))
      clear hds HZr HGn
      go_upto_region 8 with fail
      generalize (((w5.setCell ⟨g6, 0, none⟩ (.int .i64 s)).setCell ⟨g6, 1, none⟩ (.int .i64 (a2 : Int))).setCell ⟨g6, 2, none⟩ (.slice p3 m2 c3)) = W3 at K65 HG5 HB5 K35 K45 ⊢
      clear K6 K3 K4 HB k6a k6b k6c k6d k6e k6z k4a k4b k4c k4d k4e k4z k4f k6f k3a k3b k3c k3d k3z HR
      have K6 := Lib.hid K65.out
      have K3 := Lib.hid K35.out
      have K4 := Lib.hid K45.out
      have HG := Lib.hid HG5.out
      have HB := Lib.hid HB5.out
      have HZr : Hid (SzA W3 W3.heap.size) := Lib.hid ⟨Nat.le_refl _⟩
      clear K65 K35 K45 HG5 HB5
      obtain ⟨x, hx, d0, df, _, dlt⟩ := OwnI.slot HS.out HG.out.o2 q hqn
      have hxb := tly_at HO.out.ts hx
      have HX := Lib.hid hx
      clear hx
      refine region_seq [0, 1, 2, 3, 4, 5, 6, 7, 8] [9, 10, 11, 12, 13] (by kernel_rfl) (by kernel_rfl) rfl (by kernel_rfl) (fun w' => w'.cell? ⟨g6, 3, none⟩ = some (.slice (some ⟨gs, 0, none⟩) nw cs1) ∧ w'.cell? ⟨w.heap.size + 1, 0, none⟩ = some (.int .i64 (q : Int))) (fun w' h => ⟨(K6.out.below h).cell.2.2.2.1, by have h1 := (K3.out.below h).cell.1; rwa [show (Cv.mk 45 cl).c.a = (q : Int) from HQe.out] at h1⟩) ?_
      refine j_pure 38 (v := .pointer (some ⟨g6, 3, none⟩)) rfl rfl rfl (fun w => by kernel_rfl) ?_
      refine j_cell 39 (v := .slice (some ⟨gs, 0, none⟩) nw cs1) rfl rfl rfl rfl (by kernel_rfl) (fun w' h => load_slI h.1) ?_
      refine j_pure 40 (v := .pointer (some ⟨w.heap.size + 1, 0, none⟩)) rfl rfl rfl (fun w => by kernel_rfl) ?_
      refine j_cell 41 (v := .int .i64 q) rfl rfl rfl rfl (by kernel_rfl) (fun w' h => load_int h.2) ?_
      refine j_pure 42 (v := .pointer (some ⟨g6, 3, none⟩)) rfl rfl rfl (fun w => by kernel_rfl) ?_
      refine j_cell 43 (v := .slice (some ⟨gs, 0, none⟩) nw cs1) rfl rfl rfl rfl (by kernel_rfl) (fun w' h => load_slI h.1) ?_
      refine j_pure 44 (v := .pointer (some ⟨w.heap.size + 1, 0, none⟩)) rfl rfl rfl (fun w => by kernel_rfl) ?_
      refine j_cell 45 (v := .int .i64 q) rfl rfl rfl rfl (by kernel_rfl) (fun w' h => load_int h.2) ?_
      refine j_pure 46 (v := .pointer (some ⟨gs, q, none⟩)) rfl rfl rfl (exec_index0 (n := nw) (cp := cs1) hqn rfl (by kernel_rfl) (by kernel_rfl)) ?_
      intro wa hI
      have d1 := (Below.cell hI (p := ⟨gs, q, none⟩) dlt).trans d0
      have hS : ∀ w', BI W3 w' → w'.cell? ⟨g6, 3, none⟩ = some (.slice (some ⟨gs, 0, none⟩) nw cs1) ∧ w'.cell? ⟨w.heap.size + 1, 0, none⟩ = some (.int .i64 (q : Int)) := (fun w' h => ⟨(K6.out.below h).cell.2.2.2.1, by have h1 := (K3.out.below h).cell.1; rwa [show (Cv.mk 45 cl).c.a = (q : Int) from HQe.out] at h1⟩)
      refine u_val (v := .int .i64 x) rfl rfl (exec_loadI rfl (by kernel_rfl) d1) (hS _ hI) ?_
      refine u_val (v := .int .i64 (x + 1)) rfl rfl (exec_addI (x := x) (y := 1) (by omega) (by omega) rfl (by kernel_rfl) (by kernel_rfl) wa) (hS _ hI) ?_
      refine u_call (f := 110) (args := #[.int .i64 (x + 1), .int .i64 60]) rfl rfl (by kernel_rfl) ((l1_least (x + 1) 60 wa).mono ?_)
      rintro e wb ⟨rfl, b⟩
      have hI2 := BI.next hI b
      refine ⟨.int .i64 (more x), rfl, hS _ hI2, ?_⟩
      refine u_val (v := .pointer (some ⟨gs, q, none⟩)) rfl rfl (exec_index0 (n := nw) (cp := cs1) hqn rfl (by kernel_rfl) (by kernel_rfl) wb) (hS _ hI2) ?_
      have d2 := (Below.cell hI2 (p := ⟨gs, q, none⟩) dlt).trans d0
      have ho6 := offG HG.out K6.out rfl
      have ho4 := offG HG.out K4.out rfl
      have gbc := gb_cell wb gs q (.int .i64 (more x))
      have K6a := GBox.grown (K6.out.below hI2) gbc (fun e => ho6.2.1 gs rfl e.symm)
      have K4a := GBox.grown (K4.out.below hI2) gbc (fun e => ho4.2.1 gs rfl e.symm)
      have K3a := CBox.grown (K3.out.below hI2) gbc (fun e => (offC HG.out K3.out).2.1 gs rfl e.symm)
      have HGa := bump_sets (HG.out.below hI2) HS.out q x HX.out
      have HBa := game.Below.by_ (HB.out.trans (Below.mono hI2 HB.out.size)) gbc (Nat.le_trans HB.out.size (Below.size hI2)) (by have := (HG.out.o2.span gs rfl).1; omega)
      have HZa := Nat.le_trans HZr.out.h (Nat.le_trans (Below.size hI2) gbc.size)
      refine u_skip rfl rfl (exec_storeI (x := x) rfl (by kernel_rfl) (by kernel_rfl) d2 ((OwnI.slot HS.out (HG.out.below hI2).o2 q hqn).choose_spec.2.2.1 q)) ⟨K6a.cell.2.2.2.1, by have h1 := K3a.cell.1; rwa [show (Cv.mk 45 cl).c.a = (q : Int) from HQe.out] at h1⟩ ?_
      clear K6 K4 HG HB HZr hS K3a hI hI2 b d1 d2 d0 df ho6 ho4 gbc
      simp only [runsU, Act.put, List.setIfInBounds_toArray, List.set_cons_zero, List.set_cons_succ]
      have K6 := Lib.hid K6a
      have K4 := Lib.hid K4a
      have HG := Lib.hid HGa
      have HB := Lib.hid HBa
      have HZr : Hid (SzA _ _) := Lib.hid ⟨HZa⟩
      clear K6a K4a HGa HBa HZa
      generalize (wb.setCell ⟨gs, q, none⟩ (.int .i64 (more x))) = W6 at K6 K4 HG HB HZr ⊢
      obtain ⟨k6a, k6b, k6c, k6d, k6e⟩ := K6.out.cell
      have k6z := K6.out.lt
      obtain ⟨k4a, k4b, k4c, k4d, k4e⟩ := K4.out.cell
      have k4z := K4.out.lt
      have k4f := K4.out.frozen
      go_wp2_with fail
      try simp only [Exit.inBlock, Exit.then]
      refine bodyPost_ret (res_game2 Try.results71 rfl (K4.out.set_ _ _ _ _ _)) rfl ?_
      have HGf := (((((HG.out.far (g := w.heap.size + 1 + 1) (.inl (by omega)) 0 (.int .i64 s)).far (g := w.heap.size + 1 + 1) (.inl (by omega)) 1 (.int .i64 a2)).far (g := w.heap.size + 1 + 1) (.inl (by omega)) 2 (.slice p3 m2 c3)).far (g := w.heap.size + 1 + 1) (.inl (by omega)) 3 (.slice (some ⟨gs, 0, none⟩) nw cs1)).far (g := w.heap.size + 1 + 1) (.inl (by omega)) 4 (.slice (some ⟨gw, 0, none⟩) nw cw1))
      refine ⟨_, _, _, by rw [HGx.out]; rfl, ?_, by repeat (first | with_reducible exact Below.refl _ _ | with_reducible exact HB.out | with_reducible apply Below.drew | with_reducible apply bdN | with_reducible refine Below.alloc ?_ (by first | exact Nat.le_refl _ | with_reducible exact HB.out.size | omega | (simp; done) | (simp; omega) | (have := HB.out.size; simp at *; omega)) _ | with_reducible refine Below.setCell ?_ (by first | exact Nat.le_refl _ | with_reducible exact HB.out.size | omega | (simp; done) | (simp; omega) | (have := HB.out.size; simp at *; omega)) _)⟩
      rw [HGx.out]
      exact (HGf.base (show w.heap.size ≤ w.heap.size + 1 + 1 + 1 by omega)).top (by have := HZr.out.h; simpa [World.setCell] using this)
    · have hq := kind_p (l := L) (n := nw) (c := cl) (by rw [← HKd.out]; decide)
      obtain ⟨q, hqe⟩ : ∃ q : Nat, cl.a = (q : Int) := ⟨cl.a.toNat, by omega⟩
      have hqn : q < nw := by omega
      have HGx : Hid (G = ⟨s, a, L, sc, bump wt q⟩) := Lib.hid (by have h1 := HMD.out; have h2 := HMS.out; have h3 := HMW.out; rw [if_neg (by decide)] at h1 h2; rw [if_pos rfl, hqe] at h3; rw [HMk.out, h1, h2, h3]; rfl)
      have HQe := Lib.hid hqe
      clear HTk HMD HMS HMW HMk HKd hq hqe
      go_wp2_with fail
      refine ((HKk.out _ (by repeat (first | with_reducible exact HR.out | with_reducible apply Rd.drewN | with_reducible apply Rd.drew | with_reducible apply Rd.alloc)))).mono ?_
      rintro e w3 ⟨rfl, b⟩
      have Sw3 := Lib.hid b.size
      have HB := Lib.hid (chain0 (w := w) (by repeat (first | with_reducible exact Below.refl _ _ | with_reducible exact HB.out | with_reducible apply Below.drew | with_reducible apply bdN | with_reducible refine Below.alloc ?_ (by first | exact Nat.le_refl _ | with_reducible exact HB.out.size | omega | (simp; done) | (simp; omega) | (have := HB.out.size; simp at *; omega)) _ | with_reducible refine Below.setCell ?_ (by first | exact Nat.le_refl _ | with_reducible exact HB.out.size | omega | (simp; done) | (simp; omega) | (have := HB.out.size; simp at *; omega)) _)) b)
      have HZr := Lib.hid (SzA.below (by repeat (first | with_reducible exact HZr.out | with_reducible apply SzA.drewN | with_reducible apply SzA.drew | with_reducible apply SzA.alloc)) b)
      have HG := Lib.hid (OwnG.below (by repeat (first | with_reducible exact HG.out | with_reducible apply OwnG.drewN | with_reducible apply OwnG.drew | with_reducible apply OwnG.alloc)) b)
      have HR := Lib.hid (Rd.below (by repeat (first | with_reducible exact HR.out | with_reducible apply Rd.drewN | with_reducible apply Rd.drew | with_reducible apply Rd.alloc)) b)
      have K6 : Hid (GBox _ (g6) (⟨27, s, a, .slice p2 m c2, .slice (some ⟨gs, 0, none⟩) nw cs1, .slice (some ⟨gw, 0, none⟩) nw cw1⟩)) := Lib.hid (GBox.below (by repeat (first | with_reducible exact K6.out | with_reducible apply GBox.drewN | with_reducible apply GBox.drew | (with_reducible refine GBox.newAt ?_ ?_ <;> first | (simp; done) | rfl) | with_reducible apply GBox.alloc)) b)
      have K3 : Hid (CBox _ (w.heap.size + 1) (⟨45, cl⟩)) := Lib.hid (CBox.below (by repeat (first | with_reducible exact K3.out | with_reducible apply CBox.drewN | with_reducible apply CBox.drew | (with_reducible refine CBox.newAt ?_ ?_ <;> first | (simp; done) | rfl) | with_reducible apply CBox.alloc)) b)
      have K4 : Hid (GBox _ (w.heap.size + 1 + 1) (⟨27, 0, 0, .slice none 0 0, .slice none 0 0, .slice none 0 0⟩)) := Lib.hid (GBox.below (by repeat (first | with_reducible exact K4.out | with_reducible apply GBox.drewN | with_reducible apply GBox.drew | (with_reducible refine GBox.newAt ?_ ?_ <;> first | (simp; done) | rfl) | with_reducible apply GBox.alloc)) b)
      try clear k6a k6b k6c k6d k6e k6z
      have k6z := K6.out.lt
      obtain ⟨k6a, k6b, k6c, k6d, k6e⟩ := K6.out.cell
      try clear k6f
      have k6f := K6.out.frozen
      try clear k3a k3b k3c k3d k3z
      have k3z := K3.out.lt
      obtain ⟨k3a, k3b, k3c, k3d⟩ := K3.out.cell
      try clear k4a k4b k4c k4d k4e k4z
      have k4z := K4.out.lt
      obtain ⟨k4a, k4b, k4c, k4d, k4e⟩ := K4.out.cell
      try clear k4f
      have k4f := K4.out.frozen
      clear b
      go_upto_region 10 with fail
      obtain ⟨W3, hW3⟩ : ∃ W3, W3 = w3 := ⟨_, rfl⟩
      rw [← hW3] at K6 K3 K4 HG HB HZr
      rw [← hW3]
      clear hW3 k6a k6b k6c k6d k6e k6z k4a k4b k4c k4d k4e k4z k4f k6f k3a k3b k3c k3d k3z HR
      obtain ⟨x, hx, d0, df, _, dlt⟩ := OwnI.slot HW.out HG.out.o3 q hqn
      have hxb := tly_at HO.out.tw hx
      have HX := Lib.hid hx
      clear hx
      refine region_seq [0, 1, 2, 3, 4, 5, 6, 7, 8] [9, 10, 11, 12, 13] (by kernel_rfl) (by kernel_rfl) rfl (by kernel_rfl) (fun w' => w'.cell? ⟨g6, 4, none⟩ = some (.slice (some ⟨gw, 0, none⟩) nw cw1) ∧ w'.cell? ⟨w.heap.size + 1, 0, none⟩ = some (.int .i64 (q : Int))) (fun w' h => ⟨(K6.out.below h).cell.2.2.2.2, by have h1 := (K3.out.below h).cell.1; rwa [show (Cv.mk 45 cl).c.a = (q : Int) from HQe.out] at h1⟩) ?_
      refine j_pure 53 (v := .pointer (some ⟨g6, 4, none⟩)) rfl rfl rfl (fun w => by kernel_rfl) ?_
      refine j_cell 54 (v := .slice (some ⟨gw, 0, none⟩) nw cw1) rfl rfl rfl rfl (by kernel_rfl) (fun w' h => load_slI h.1) ?_
      refine j_pure 55 (v := .pointer (some ⟨w.heap.size + 1, 0, none⟩)) rfl rfl rfl (fun w => by kernel_rfl) ?_
      refine j_cell 56 (v := .int .i64 q) rfl rfl rfl rfl (by kernel_rfl) (fun w' h => load_int h.2) ?_
      refine j_pure 57 (v := .pointer (some ⟨g6, 4, none⟩)) rfl rfl rfl (fun w => by kernel_rfl) ?_
      refine j_cell 58 (v := .slice (some ⟨gw, 0, none⟩) nw cw1) rfl rfl rfl rfl (by kernel_rfl) (fun w' h => load_slI h.1) ?_
      refine j_pure 59 (v := .pointer (some ⟨w.heap.size + 1, 0, none⟩)) rfl rfl rfl (fun w => by kernel_rfl) ?_
      refine j_cell 60 (v := .int .i64 q) rfl rfl rfl rfl (by kernel_rfl) (fun w' h => load_int h.2) ?_
      refine j_pure 61 (v := .pointer (some ⟨gw, q, none⟩)) rfl rfl rfl (exec_index0 (n := nw) (cp := cw1) hqn rfl (by kernel_rfl) (by kernel_rfl)) ?_
      intro wa hI
      have d1 := (Below.cell hI (p := ⟨gw, q, none⟩) dlt).trans d0
      have hS : ∀ w', BI W3 w' → w'.cell? ⟨g6, 4, none⟩ = some (.slice (some ⟨gw, 0, none⟩) nw cw1) ∧ w'.cell? ⟨w.heap.size + 1, 0, none⟩ = some (.int .i64 (q : Int)) := (fun w' h => ⟨(K6.out.below h).cell.2.2.2.2, by have h1 := (K3.out.below h).cell.1; rwa [show (Cv.mk 45 cl).c.a = (q : Int) from HQe.out] at h1⟩)
      refine u_val (v := .int .i64 x) rfl rfl (exec_loadI rfl (by kernel_rfl) d1) (hS _ hI) ?_
      refine u_val (v := .int .i64 (x + 1)) rfl rfl (exec_addI (x := x) (y := 1) (by omega) (by omega) rfl (by kernel_rfl) (by kernel_rfl) wa) (hS _ hI) ?_
      refine u_call (f := 110) (args := #[.int .i64 (x + 1), .int .i64 60]) rfl rfl (by kernel_rfl) ((l1_least (x + 1) 60 wa).mono ?_)
      rintro e wb ⟨rfl, b⟩
      have hI2 := BI.next hI b
      refine ⟨.int .i64 (more x), rfl, hS _ hI2, ?_⟩
      refine u_val (v := .pointer (some ⟨gw, q, none⟩)) rfl rfl (exec_index0 (n := nw) (cp := cw1) hqn rfl (by kernel_rfl) (by kernel_rfl) wb) (hS _ hI2) ?_
      have d2 := (Below.cell hI2 (p := ⟨gw, q, none⟩) dlt).trans d0
      have ho6 := offG HG.out K6.out rfl
      have ho4 := offG HG.out K4.out rfl
      have gbc := gb_cell wb gw q (.int .i64 (more x))
      have K6a := GBox.grown (K6.out.below hI2) gbc (fun e => ho6.2.2 gw rfl e.symm)
      have K4a := GBox.grown (K4.out.below hI2) gbc (fun e => ho4.2.2 gw rfl e.symm)
      have K3a := CBox.grown (K3.out.below hI2) gbc (fun e => (offC HG.out K3.out).2.2 gw rfl e.symm)
      have HGa := bump_setsW (HG.out.below hI2) HW.out q x HX.out
      have HBa := game.Below.by_ (HB.out.trans (Below.mono hI2 HB.out.size)) gbc (Nat.le_trans HB.out.size (Below.size hI2)) (by have := (HG.out.o3.span gw rfl).1; omega)
      have HZa := Nat.le_trans HZr.out.h (Nat.le_trans (Below.size hI2) gbc.size)
      refine u_skip rfl rfl (exec_storeI (x := x) rfl (by kernel_rfl) (by kernel_rfl) d2 ((OwnI.slot HW.out (HG.out.below hI2).o3 q hqn).choose_spec.2.2.1 q)) ⟨K6a.cell.2.2.2.2, by have h1 := K3a.cell.1; rwa [show (Cv.mk 45 cl).c.a = (q : Int) from HQe.out] at h1⟩ ?_
      clear K6 K4 HG HB HZr hS K3a hI hI2 b d1 d2 d0 df ho6 ho4 gbc
      simp only [runsU, Act.put, List.setIfInBounds_toArray, List.set_cons_zero, List.set_cons_succ]
      have K6 := Lib.hid K6a
      have K4 := Lib.hid K4a
      have HG := Lib.hid HGa
      have HB := Lib.hid HBa
      have HZr : Hid (SzA _ _) := Lib.hid ⟨HZa⟩
      clear K6a K4a HGa HBa HZa
      generalize (wb.setCell ⟨gw, q, none⟩ (.int .i64 (more x))) = W6 at K6 K4 HG HB HZr ⊢
      obtain ⟨k6a, k6b, k6c, k6d, k6e⟩ := K6.out.cell
      have k6z := K6.out.lt
      obtain ⟨k4a, k4b, k4c, k4d, k4e⟩ := K4.out.cell
      have k4z := K4.out.lt
      have k4f := K4.out.frozen
      go_wp2_with fail
      try simp only [Exit.inBlock, Exit.then]
      refine bodyPost_ret (res_game2 Try.results71 rfl (K4.out.set_ _ _ _ _ _)) rfl ?_
      have HGf := (((((HG.out.far (g := w.heap.size + 1 + 1) (.inl (by omega)) 0 (.int .i64 s)).far (g := w.heap.size + 1 + 1) (.inl (by omega)) 1 (.int .i64 a)).far (g := w.heap.size + 1 + 1) (.inl (by omega)) 2 (.slice p2 m c2)).far (g := w.heap.size + 1 + 1) (.inl (by omega)) 3 (.slice (some ⟨gs, 0, none⟩) nw cs1)).far (g := w.heap.size + 1 + 1) (.inl (by omega)) 4 (.slice (some ⟨gw, 0, none⟩) nw cw1))
      refine ⟨_, _, _, by rw [HGx.out]; rfl, ?_, by repeat (first | with_reducible exact Below.refl _ _ | with_reducible exact HB.out | with_reducible apply Below.drew | with_reducible apply bdN | with_reducible refine Below.alloc ?_ (by first | exact Nat.le_refl _ | with_reducible exact HB.out.size | omega | (simp; done) | (simp; omega) | (have := HB.out.size; simp at *; omega)) _ | with_reducible refine Below.setCell ?_ (by first | exact Nat.le_refl _ | with_reducible exact HB.out.size | omega | (simp; done) | (simp; omega) | (have := HB.out.size; simp at *; omega)) _)⟩
      rw [HGx.out]
      exact (HGf.base (show w.heap.size ≤ w.heap.size + 1 + 1 + 1 by omega)).top (by have := HZr.out.h; simpa [World.setCell] using this)
    · have HGx : Hid (G = ⟨s, a, L, sc, wt⟩) := Lib.hid (by have h1 := HMD.out; have h2 := HMS.out; have h3 := HMW.out; rw [if_neg (by decide)] at h1 h2 h3; rw [HMk.out, h1, h2, h3])
      clear HTk HMD HMS HMW HMk HKd
      go_wp2_with fail
      refine ((HKk.out _ (by repeat (first | with_reducible exact HR.out | with_reducible apply Rd.drewN | with_reducible apply Rd.drew | with_reducible apply Rd.alloc)))).mono ?_
      rintro e w3 ⟨rfl, b⟩
      have Sw3 := Lib.hid b.size
      have HB := Lib.hid (chain0 (w := w) (by repeat (first | with_reducible exact Below.refl _ _ | with_reducible exact HB.out | with_reducible apply Below.drew | with_reducible apply bdN | with_reducible refine Below.alloc ?_ (by first | exact Nat.le_refl _ | with_reducible exact HB.out.size | omega | (simp; done) | (simp; omega) | (have := HB.out.size; simp at *; omega)) _ | with_reducible refine Below.setCell ?_ (by first | exact Nat.le_refl _ | with_reducible exact HB.out.size | omega | (simp; done) | (simp; omega) | (have := HB.out.size; simp at *; omega)) _)) b)
      have HZr := Lib.hid (SzA.below (by repeat (first | with_reducible exact HZr.out | with_reducible apply SzA.drewN | with_reducible apply SzA.drew | with_reducible apply SzA.alloc)) b)
      have HG := Lib.hid (OwnG.below (by repeat (first | with_reducible exact HG.out | with_reducible apply OwnG.drewN | with_reducible apply OwnG.drew | with_reducible apply OwnG.alloc)) b)
      have HR := Lib.hid (Rd.below (by repeat (first | with_reducible exact HR.out | with_reducible apply Rd.drewN | with_reducible apply Rd.drew | with_reducible apply Rd.alloc)) b)
      have K6 : Hid (GBox _ (g6) (⟨27, s, a, .slice p2 m c2, .slice (some ⟨gs, 0, none⟩) nw cs1, .slice (some ⟨gw, 0, none⟩) nw cw1⟩)) := Lib.hid (GBox.below (by repeat (first | with_reducible exact K6.out | with_reducible apply GBox.drewN | with_reducible apply GBox.drew | (with_reducible refine GBox.newAt ?_ ?_ <;> first | (simp; done) | rfl) | with_reducible apply GBox.alloc)) b)
      have K3 : Hid (CBox _ (w.heap.size + 1) (⟨45, cl⟩)) := Lib.hid (CBox.below (by repeat (first | with_reducible exact K3.out | with_reducible apply CBox.drewN | with_reducible apply CBox.drew | (with_reducible refine CBox.newAt ?_ ?_ <;> first | (simp; done) | rfl) | with_reducible apply CBox.alloc)) b)
      have K4 : Hid (GBox _ (w.heap.size + 1 + 1) (⟨27, 0, 0, .slice none 0 0, .slice none 0 0, .slice none 0 0⟩)) := Lib.hid (GBox.below (by repeat (first | with_reducible exact K4.out | with_reducible apply GBox.drewN | with_reducible apply GBox.drew | (with_reducible refine GBox.newAt ?_ ?_ <;> first | (simp; done) | rfl) | with_reducible apply GBox.alloc)) b)
      try clear k6a k6b k6c k6d k6e k6z
      have k6z := K6.out.lt
      obtain ⟨k6a, k6b, k6c, k6d, k6e⟩ := K6.out.cell
      try clear k6f
      have k6f := K6.out.frozen
      try clear k3a k3b k3c k3d k3z
      have k3z := K3.out.lt
      obtain ⟨k3a, k3b, k3c, k3d⟩ := K3.out.cell
      try clear k4a k4b k4c k4d k4e k4z
      have k4z := K4.out.lt
      obtain ⟨k4a, k4b, k4c, k4d, k4e⟩ := K4.out.cell
      try clear k4f
      have k4f := K4.out.frozen
      clear b
      go_wp2_with fail
      try simp only [Exit.inBlock, Exit.then]
      refine bodyPost_ret (res_game2 Try.results71 rfl (K4.out.set_ _ _ _ _ _)) rfl ?_
      have HGf := (((((HG.out.far (g := w.heap.size + 1 + 1) (.inl (by omega)) 0 (.int .i64 s)).far (g := w.heap.size + 1 + 1) (.inl (by omega)) 1 (.int .i64 a)).far (g := w.heap.size + 1 + 1) (.inl (by omega)) 2 (.slice p2 m c2)).far (g := w.heap.size + 1 + 1) (.inl (by omega)) 3 (.slice (some ⟨gs, 0, none⟩) nw cs1)).far (g := w.heap.size + 1 + 1) (.inl (by omega)) 4 (.slice (some ⟨gw, 0, none⟩) nw cw1))
      refine ⟨_, _, _, by rw [HGx.out]; rfl, ?_, by repeat (first | with_reducible exact Below.refl _ _ | with_reducible exact HB.out | with_reducible apply Below.drew | with_reducible apply bdN | with_reducible refine Below.alloc ?_ (by first | exact Nat.le_refl _ | with_reducible exact HB.out.size | omega | (simp; done) | (simp; omega) | (have := HB.out.size; simp at *; omega)) _ | with_reducible refine Below.setCell ?_ (by first | exact Nat.le_refl _ | with_reducible exact HB.out.size | omega | (simp; done) | (simp; omega) | (have := HB.out.size; simp at *; omega)) _)⟩
      rw [HGx.out]
      exact (HGf.base (show w.heap.size ≤ w.heap.size + 1 + 1 + 1 by omega)).top (by have := HZr.out.h; simpa [World.setCell] using this)
end Go.Proofs.Yteccbcbijfcpmaa.game

/- MakeClaim: the program's and the model's. -/
namespace Go.Proofs.Yteccbcbijfcpmaa.game
open Go.RowKit
open cards deal
set_option linter.unusedVariables false

theorem results_cell_tmp2 {fn : Func} {p u v : Tmp} {ty : TypeId} (h : fn.results = #[.cell p ty, .tmp u, .tmp v]) (tmps : Array Value) (P : Program) (w : World) :
    (results fn tmps).run P w = ((asAddr (tmps.getD p undef)).run P w).andThen fun a w₁ => ((loadVar ty a).run P w₁).andThen fun x w₂ => .ok (.tuple #[x, tmps.getD u undef, tmps.getD v undef]) w₂ := by
  simp only [results, h]
  simp [Sem.run_bind, Result.andThen]
theorem res_game3 {fn : Func} {i x y : Tmp} (hf : fn.results = #[.cell i 27, .tmp x, .tmp y]) {tmps : Array Value} {w : World} {g : Nat} {s n : Int} {v u q : Value} (ht : tmps.getD i undef = .pointer (some ⟨g, 0, none⟩)) (h : GBox w g ⟨27, s, n, v, u, q⟩) :
    (results fn tmps).run Try.prog w = .ok (.tuple #[gval s n v u q, tmps.getD x undef, tmps.getD y undef]) w := by
  have hl := load_game h
  rw [results_cell_tmp2 hf, ht]
  simp [asAddr, hl, Result.andThen]
theorem made_s {g : Gm} {c : Cd} (h : g.okP) : (made g c).s = g.s := by
  show (madeD g c).s = g.s
  have hu := up_s h.d
  unfold madeD
  split
  · exact hu
  · exact hu
noncomputable def mcR (g : Gm) (cl : Cd) : Gm × Int × Bool := if g.ok = true then (made g cl, madeK g cl, true) else (gm0, 0, false)
theorem mcR_len (g : Gm) (cl : Cd) : (mcR g cl).1.l.length ≤ 1000 ∧ (mcR g cl).1.sc.length ≤ 1000 ∧ (mcR g cl).1.wr.length ≤ 1000 := by
  unfold mcR
  split
  · rename_i h
    have ho := made_ok (c := cl) (Gm.ok_iff.1 h)
    have h1 := ho.d.len81
    have h4 := ho.p4
    have he := ho.eq
    simp only
    have h1' : (made g cl).l.length ≤ 81 := h1
    omega
  · exact ⟨by decide, by decide, by decide⟩

set_option maxRecDepth 100000 in
set_option maxHeartbeats 4000000 in
theorem impl_mc (g : Gm) (cl : Cd) (p ps pw : Option Addr) (n c ns cs nw cw : Nat) (w : World) (hf : FitG n c ns cs nw cw p ps pw g) (hr : RdG w p ps pw g.l g.sc g.wr) (hw : wfc cl) :
    Calls Try.prog 28 #[gval g.s g.nx (.slice p n c) (.slice ps ns cs) (.slice pw nw cw), cl.val] w fun e w' => ∃ vl vs vw, e = .returned (.tuple #[gval (mcR g cl).1.s (mcR g cl).1.nx vl vs vw, .int .i64 (mcR g cl).2.1, .bool (mcR g cl).2.2]) ∧ OwnG w' w.heap.size w'.heap.size vl vs vw (mcR g cl).1.l (mcR g cl).1.sc (mcR g cl).1.wr ∧ Below w.heap.size w w' := by
  have HR := Lib.hid hr
  have HF := Lib.hid hf
  have HC := Lib.hid (fun w h => is_game g p ps pw n c ns cs nw cw w hf h)
  have K3 : Hid (CBox (((w.alloc (Gv.obj ⟨27, g.s, g.nx, .slice p n c, .slice ps ns cs, .slice pw nw cw⟩)).alloc (Cv.obj ⟨45, cl⟩)).alloc (Gv.obj ⟨27, 0, 0, .slice none 0 0, .slice none 0 0, .slice none 0 0⟩)) (w.heap.size + 1) ⟨45, cl⟩) := Lib.hid ((CBox.newAt (by simp) rfl).alloc _)
  have K4 : Hid (GBox (((w.alloc (Gv.obj ⟨27, g.s, g.nx, .slice p n c, .slice ps ns cs, .slice pw nw cw⟩)).alloc (Cv.obj ⟨45, cl⟩)).alloc (Gv.obj ⟨27, 0, 0, .slice none 0 0, .slice none 0 0, .slice none 0 0⟩)) (w.heap.size + 1 + 1) ⟨27, 0, 0, .slice none 0 0, .slice none 0 0, .slice none 0 0⟩) := Lib.hid (GBox.newAt (by simp) rfl)
  cases hok : g.ok
  · have HT := Lib.hid (show mcR g cl = (gm0, 0, false) by unfold mcR; rw [if_neg (by simp [hok])])
    rw [hok] at HC
    rw [HT.out]
    clear hf hr hok HT
    obtain ⟨s, nx, l, sc, wt⟩ := g
    simp only at HR HC K3 K4 ⊢
    go_enter Try.func28, Try.ntmps28
    go_upto_region 1 with fail
    obtain ⟨w0, ew, b⟩ : ∃ wOPN : World, wOPN = (((w.alloc (Gv.obj ⟨27, s, nx, .slice p n c, .slice ps ns cs, .slice pw nw cw⟩)).alloc (Cv.obj ⟨45, cl⟩)).alloc (Gv.obj ⟨27, 0, 0, .slice none 0 0, .slice none 0 0, .slice none 0 0⟩)) ∧ Below ((((w.alloc (Gv.obj ⟨27, s, nx, .slice p n c, .slice ps ns cs, .slice pw nw cw⟩)).alloc (Cv.obj ⟨45, cl⟩)).alloc (Gv.obj ⟨27, 0, 0, .slice none 0 0, .slice none 0 0, .slice none 0 0⟩))).heap.size ((((w.alloc (Gv.obj ⟨27, s, nx, .slice p n c, .slice ps ns cs, .slice pw nw cw⟩)).alloc (Cv.obj ⟨45, cl⟩)).alloc (Gv.obj ⟨27, 0, 0, .slice none 0 0, .slice none 0 0, .slice none 0 0⟩))) wOPN := ⟨_, rfl, Below.refl _ _⟩
    rw [← ew]
    clear ew
    have Sw0 := Lib.hid b.size
    have HB := Lib.hid (chain0 (w := w) (by repeat (first | with_reducible exact Below.refl _ _ | with_reducible exact HB.out | with_reducible apply Below.drew | with_reducible apply bdN | with_reducible refine Below.alloc ?_ (by first | exact Nat.le_refl _ | with_reducible exact HB.out.size | omega | (simp; done) | (simp; omega) | (have := HB.out.size; simp at *; omega)) _ | with_reducible refine Below.setCell ?_ (by first | exact Nat.le_refl _ | with_reducible exact HB.out.size | omega | (simp; done) | (simp; omega) | (have := HB.out.size; simp at *; omega)) _)) b)
    have HR := Lib.hid (RdG.below (by repeat (first | with_reducible exact HR.out | with_reducible apply RdG.drewN | with_reducible apply RdG.drew | with_reducible apply RdG.alloc)) b)
    have K2 : Hid (GBox _ (w.heap.size) (⟨27, s, nx, .slice p n c, .slice ps ns cs, .slice pw nw cw⟩)) := Lib.hid (GBox.below (by repeat (first | with_reducible exact K2.out | with_reducible apply GBox.drewN | with_reducible apply GBox.drew | (with_reducible refine GBox.newAt ?_ ?_ <;> first | (simp; done) | rfl) | with_reducible apply GBox.alloc)) b)
    have K3 : Hid (CBox _ (w.heap.size + 1) (⟨45, cl⟩)) := Lib.hid (CBox.below (by repeat (first | with_reducible exact K3.out | with_reducible apply CBox.drewN | with_reducible apply CBox.drew | (with_reducible refine CBox.newAt ?_ ?_ <;> first | (simp; done) | rfl) | with_reducible apply CBox.alloc)) b)
    have K4 : Hid (GBox _ (w.heap.size + 1 + 1) (⟨27, 0, 0, .slice none 0 0, .slice none 0 0, .slice none 0 0⟩)) := Lib.hid (GBox.below (by repeat (first | with_reducible exact K4.out | with_reducible apply GBox.drewN | with_reducible apply GBox.drew | (with_reducible refine GBox.newAt ?_ ?_ <;> first | (simp; done) | rfl) | with_reducible apply GBox.alloc)) b)
    try clear k2a k2b k2c k2d k2e k2z
    have k2z := K2.out.lt
    obtain ⟨k2a, k2b, k2c, k2d, k2e⟩ := K2.out.cell
    try clear k3a k3b k3c k3d k3z
    have k3z := K3.out.lt
    obtain ⟨k3a, k3b, k3c, k3d⟩ := K3.out.cell
    try clear k4a k4b k4c k4d k4e k4z
    have k4z := K4.out.lt
    obtain ⟨k4a, k4b, k4c, k4d, k4e⟩ := K4.out.cell
    try clear k4f
    have k4f := K4.out.frozen
    clear b
    go_wp2_with fail
    refine ((HC.out _ HR.out)).mono ?_
    rintro e w1 ⟨rfl, b⟩
    have Sw1 := Lib.hid b.size
    have HB := Lib.hid (chain0 (w := w) (by repeat (first | with_reducible exact Below.refl _ _ | with_reducible exact HB.out | with_reducible apply Below.drew | with_reducible apply bdN | with_reducible refine Below.alloc ?_ (by first | exact Nat.le_refl _ | with_reducible exact HB.out.size | omega | (simp; done) | (simp; omega) | (have := HB.out.size; simp at *; omega)) _ | with_reducible refine Below.setCell ?_ (by first | exact Nat.le_refl _ | with_reducible exact HB.out.size | omega | (simp; done) | (simp; omega) | (have := HB.out.size; simp at *; omega)) _)) b)
    have HR := Lib.hid (RdG.below (by repeat (first | with_reducible exact HR.out | with_reducible apply RdG.drewN | with_reducible apply RdG.drew | with_reducible apply RdG.alloc)) b)
    have K2 : Hid (GBox _ (w.heap.size) (⟨27, s, nx, .slice p n c, .slice ps ns cs, .slice pw nw cw⟩)) := Lib.hid (GBox.below (by repeat (first | with_reducible exact K2.out | with_reducible apply GBox.drewN | with_reducible apply GBox.drew | (with_reducible refine GBox.newAt ?_ ?_ <;> first | (simp; done) | rfl) | with_reducible apply GBox.alloc)) b)
    have K3 : Hid (CBox _ (w.heap.size + 1) (⟨45, cl⟩)) := Lib.hid (CBox.below (by repeat (first | with_reducible exact K3.out | with_reducible apply CBox.drewN | with_reducible apply CBox.drew | (with_reducible refine CBox.newAt ?_ ?_ <;> first | (simp; done) | rfl) | with_reducible apply CBox.alloc)) b)
    have K4 : Hid (GBox _ (w.heap.size + 1 + 1) (⟨27, 0, 0, .slice none 0 0, .slice none 0 0, .slice none 0 0⟩)) := Lib.hid (GBox.below (by repeat (first | with_reducible exact K4.out | with_reducible apply GBox.drewN | with_reducible apply GBox.drew | (with_reducible refine GBox.newAt ?_ ?_ <;> first | (simp; done) | rfl) | with_reducible apply GBox.alloc)) b)
    try clear k2a k2b k2c k2d k2e k2z
    have k2z := K2.out.lt
    obtain ⟨k2a, k2b, k2c, k2d, k2e⟩ := K2.out.cell
    try clear k3a k3b k3c k3d k3z
    have k3z := K3.out.lt
    obtain ⟨k3a, k3b, k3c, k3d⟩ := K3.out.cell
    try clear k4a k4b k4c k4d k4e k4z
    have k4z := K4.out.lt
    obtain ⟨k4a, k4b, k4c, k4d, k4e⟩ := K4.out.cell
    try clear k4f
    have k4f := K4.out.frozen
    clear b
    go_wp2_with fail
    try simp only [Exit.inBlock, Exit.then]
    refine bodyPost_ret (res_game3 Try.results28 rfl (K4.out.set_ _ _ _ _ _)) rfl ?_
    exact ⟨.slice none 0 0, .slice none 0 0, .slice none 0 0, rfl, (OwnG.empty _ _).top (by have := HB.out.size; simpa [World.setCell] using this), by repeat (first | with_reducible exact Below.refl _ _ | with_reducible exact HB.out | with_reducible apply Below.drew | with_reducible apply bdN | with_reducible refine Below.alloc ?_ (by first | exact Nat.le_refl _ | with_reducible exact HB.out.size | omega | (simp; done) | (simp; omega) | (have := HB.out.size; simp at *; omega)) _ | with_reducible refine Below.setCell ?_ (by first | exact Nat.le_refl _ | with_reducible exact HB.out.size | omega | (simp; done) | (simp; omega) | (have := HB.out.size; simp at *; omega)) _)⟩
  · have ho := Gm.ok_iff.1 hok
    have HT := Lib.hid (show mcR g cl = (made g cl, madeK g cl, true) by unfold mcR; rw [if_pos hok])
    have HS := Lib.hid (made_s (c := cl) ho)
    obtain ⟨s, nx, l, sc, wt⟩ := g
    obtain ⟨a0, rfl⟩ : ∃ a0 : Nat, nx = (a0 : Int) := ⟨nx.toNat, by have h : 0 ≤ nx := ho.d.2.1.1; omega⟩
    have HK := Lib.hid (fun w h => impl_mk s a0 l sc wt cl p ps pw n c ns cs nw cw w ho hf.hn hf.hs hf.hw hf.z h hw)
    rw [hok] at HC
    rw [HT.out]
    obtain ⟨kd, hkd⟩ : ∃ kd, madeK ⟨s, a0, l, sc, wt⟩ cl = kd := ⟨_, rfl⟩
    obtain ⟨G, hG⟩ : ∃ G, made ⟨s, a0, l, sc, wt⟩ cl = G := ⟨_, rfl⟩
    rw [hkd, hG] at HK ⊢
    rw [hG] at HS
    obtain ⟨s', x', L', SC', WR'⟩ := G
    have hs' : s' = s := HS.out
    subst hs'
    clear hf hr hok HT hkd hG ho HS
    simp only at HR HC HK K3 K4 ⊢
    go_enter Try.func28, Try.ntmps28
    go_upto_region 1 with fail
    obtain ⟨w0, ew, b⟩ : ∃ wOPN : World, wOPN = (((w.alloc (Gv.obj ⟨27, s', a0, .slice p n c, .slice ps ns cs, .slice pw nw cw⟩)).alloc (Cv.obj ⟨45, cl⟩)).alloc (Gv.obj ⟨27, 0, 0, .slice none 0 0, .slice none 0 0, .slice none 0 0⟩)) ∧ Below ((((w.alloc (Gv.obj ⟨27, s', a0, .slice p n c, .slice ps ns cs, .slice pw nw cw⟩)).alloc (Cv.obj ⟨45, cl⟩)).alloc (Gv.obj ⟨27, 0, 0, .slice none 0 0, .slice none 0 0, .slice none 0 0⟩))).heap.size ((((w.alloc (Gv.obj ⟨27, s', a0, .slice p n c, .slice ps ns cs, .slice pw nw cw⟩)).alloc (Cv.obj ⟨45, cl⟩)).alloc (Gv.obj ⟨27, 0, 0, .slice none 0 0, .slice none 0 0, .slice none 0 0⟩))) wOPN := ⟨_, rfl, Below.refl _ _⟩
    rw [← ew]
    clear ew
    have Sw0 := Lib.hid b.size
    have HB := Lib.hid (chain0 (w := w) (by repeat (first | with_reducible exact Below.refl _ _ | with_reducible exact HB.out | with_reducible apply Below.drew | with_reducible apply bdN | with_reducible refine Below.alloc ?_ (by first | exact Nat.le_refl _ | with_reducible exact HB.out.size | omega | (simp; done) | (simp; omega) | (have := HB.out.size; simp at *; omega)) _ | with_reducible refine Below.setCell ?_ (by first | exact Nat.le_refl _ | with_reducible exact HB.out.size | omega | (simp; done) | (simp; omega) | (have := HB.out.size; simp at *; omega)) _)) b)
    have HR := Lib.hid (RdG.below (by repeat (first | with_reducible exact HR.out | with_reducible apply RdG.drewN | with_reducible apply RdG.drew | with_reducible apply RdG.alloc)) b)
    have K2 : Hid (GBox _ (w.heap.size) (⟨27, s', a0, .slice p n c, .slice ps ns cs, .slice pw nw cw⟩)) := Lib.hid (GBox.below (by repeat (first | with_reducible exact K2.out | with_reducible apply GBox.drewN | with_reducible apply GBox.drew | (with_reducible refine GBox.newAt ?_ ?_ <;> first | (simp; done) | rfl) | with_reducible apply GBox.alloc)) b)
    have K3 : Hid (CBox _ (w.heap.size + 1) (⟨45, cl⟩)) := Lib.hid (CBox.below (by repeat (first | with_reducible exact K3.out | with_reducible apply CBox.drewN | with_reducible apply CBox.drew | (with_reducible refine CBox.newAt ?_ ?_ <;> first | (simp; done) | rfl) | with_reducible apply CBox.alloc)) b)
    have K4 : Hid (GBox _ (w.heap.size + 1 + 1) (⟨27, 0, 0, .slice none 0 0, .slice none 0 0, .slice none 0 0⟩)) := Lib.hid (GBox.below (by repeat (first | with_reducible exact K4.out | with_reducible apply GBox.drewN | with_reducible apply GBox.drew | (with_reducible refine GBox.newAt ?_ ?_ <;> first | (simp; done) | rfl) | with_reducible apply GBox.alloc)) b)
    try clear k2a k2b k2c k2d k2e k2z
    have k2z := K2.out.lt
    obtain ⟨k2a, k2b, k2c, k2d, k2e⟩ := K2.out.cell
    try clear k3a k3b k3c k3d k3z
    have k3z := K3.out.lt
    obtain ⟨k3a, k3b, k3c, k3d⟩ := K3.out.cell
    try clear k4a k4b k4c k4d k4e k4z
    have k4z := K4.out.lt
    obtain ⟨k4a, k4b, k4c, k4d, k4e⟩ := K4.out.cell
    try clear k4f
    have k4f := K4.out.frozen
    clear b
    go_wp2_with fail
    refine ((HC.out _ HR.out)).mono ?_
    rintro e w1 ⟨rfl, b⟩
    have Sw1 := Lib.hid b.size
    have HB := Lib.hid (chain0 (w := w) (by repeat (first | with_reducible exact Below.refl _ _ | with_reducible exact HB.out | with_reducible apply Below.drew | with_reducible apply bdN | with_reducible refine Below.alloc ?_ (by first | exact Nat.le_refl _ | with_reducible exact HB.out.size | omega | (simp; done) | (simp; omega) | (have := HB.out.size; simp at *; omega)) _ | with_reducible refine Below.setCell ?_ (by first | exact Nat.le_refl _ | with_reducible exact HB.out.size | omega | (simp; done) | (simp; omega) | (have := HB.out.size; simp at *; omega)) _)) b)
    have HR := Lib.hid (RdG.below (by repeat (first | with_reducible exact HR.out | with_reducible apply RdG.drewN | with_reducible apply RdG.drew | with_reducible apply RdG.alloc)) b)
    have K2 : Hid (GBox _ (w.heap.size) (⟨27, s', a0, .slice p n c, .slice ps ns cs, .slice pw nw cw⟩)) := Lib.hid (GBox.below (by repeat (first | with_reducible exact K2.out | with_reducible apply GBox.drewN | with_reducible apply GBox.drew | (with_reducible refine GBox.newAt ?_ ?_ <;> first | (simp; done) | rfl) | with_reducible apply GBox.alloc)) b)
    have K3 : Hid (CBox _ (w.heap.size + 1) (⟨45, cl⟩)) := Lib.hid (CBox.below (by repeat (first | with_reducible exact K3.out | with_reducible apply CBox.drewN | with_reducible apply CBox.drew | (with_reducible refine CBox.newAt ?_ ?_ <;> first | (simp; done) | rfl) | with_reducible apply CBox.alloc)) b)
    have K4 : Hid (GBox _ (w.heap.size + 1 + 1) (⟨27, 0, 0, .slice none 0 0, .slice none 0 0, .slice none 0 0⟩)) := Lib.hid (GBox.below (by repeat (first | with_reducible exact K4.out | with_reducible apply GBox.drewN | with_reducible apply GBox.drew | (with_reducible refine GBox.newAt ?_ ?_ <;> first | (simp; done) | rfl) | with_reducible apply GBox.alloc)) b)
    try clear k2a k2b k2c k2d k2e k2z
    have k2z := K2.out.lt
    obtain ⟨k2a, k2b, k2c, k2d, k2e⟩ := K2.out.cell
    try clear k3a k3b k3c k3d k3z
    have k3z := K3.out.lt
    obtain ⟨k3a, k3b, k3c, k3d⟩ := K3.out.cell
    try clear k4a k4b k4c k4d k4e k4z
    have k4z := K4.out.lt
    obtain ⟨k4a, k4b, k4c, k4d, k4e⟩ := K4.out.cell
    try clear k4f
    have k4f := K4.out.frozen
    clear b
    have HZ1 := Lib.hid (show w.heap.size + 1 + 1 + 1 ≤ w1.heap.size from K4.out.lt)
    go_wp2_with fail
    refine (HK.out _ (by repeat (first | with_reducible exact HR.out | with_reducible apply RdG.drewN | with_reducible apply RdG.drew | with_reducible apply RdG.alloc))).mono ?_
    rintro e w2 ⟨vl, vs, vw, rfl, hg, b⟩
    obtain ⟨p2, c2, ps2, cs2, pw2, cw2, rfl, rfl, rfl, -⟩ := hg.form
    have HG := Lib.hid (hg.base HZ1.out)
    have Sw2 := Lib.hid b.size
    have HB := Lib.hid (chain0 (w := w) (by repeat (first | with_reducible exact Below.refl _ _ | with_reducible exact HB.out | with_reducible apply Below.drew | with_reducible apply bdN | with_reducible refine Below.alloc ?_ (by first | exact Nat.le_refl _ | with_reducible exact HB.out.size | omega | (simp; done) | (simp; omega) | (have := HB.out.size; simp at *; omega)) _ | with_reducible refine Below.setCell ?_ (by first | exact Nat.le_refl _ | with_reducible exact HB.out.size | omega | (simp; done) | (simp; omega) | (have := HB.out.size; simp at *; omega)) _)) b)
    have HR := Lib.hid (RdG.below (by repeat (first | with_reducible exact HR.out | with_reducible apply RdG.drewN | with_reducible apply RdG.drew | with_reducible apply RdG.alloc)) b)
    have K2 : Hid (GBox _ (w.heap.size) (⟨27, s', a0, .slice p n c, .slice ps ns cs, .slice pw nw cw⟩)) := Lib.hid (GBox.below (by repeat (first | with_reducible exact K2.out | with_reducible apply GBox.drewN | with_reducible apply GBox.drew | (with_reducible refine GBox.newAt ?_ ?_ <;> first | (simp; done) | rfl) | with_reducible apply GBox.alloc)) b)
    have K3 : Hid (CBox _ (w.heap.size + 1) (⟨45, cl⟩)) := Lib.hid (CBox.below (by repeat (first | with_reducible exact K3.out | with_reducible apply CBox.drewN | with_reducible apply CBox.drew | (with_reducible refine CBox.newAt ?_ ?_ <;> first | (simp; done) | rfl) | with_reducible apply CBox.alloc)) b)
    have K4 : Hid (GBox _ (w.heap.size + 1 + 1) (⟨27, 0, 0, .slice none 0 0, .slice none 0 0, .slice none 0 0⟩)) := Lib.hid (GBox.below (by repeat (first | with_reducible exact K4.out | with_reducible apply GBox.drewN | with_reducible apply GBox.drew | (with_reducible refine GBox.newAt ?_ ?_ <;> first | (simp; done) | rfl) | with_reducible apply GBox.alloc)) b)
    try clear k2a k2b k2c k2d k2e k2z
    have k2z := K2.out.lt
    obtain ⟨k2a, k2b, k2c, k2d, k2e⟩ := K2.out.cell
    try clear k3a k3b k3c k3d k3z
    have k3z := K3.out.lt
    obtain ⟨k3a, k3b, k3c, k3d⟩ := K3.out.cell
    try clear k4a k4b k4c k4d k4e k4z
    have k4z := K4.out.lt
    obtain ⟨k4a, k4b, k4c, k4d, k4e⟩ := K4.out.cell
    try clear k4f
    have k4f := K4.out.frozen
    clear b
    clear hg
    have HZ2 : Hid (SzA w2 w2.heap.size) := Lib.hid ⟨Nat.le_refl _⟩
    go_upto_region 4 with fail
    have K7 : Hid (GBox (w2.alloc (Gv.obj (⟨27, s', x', .slice p2 L'.length c2, .slice ps2 SC'.length cs2, .slice pw2 WR'.length cw2⟩))) w2.heap.size (⟨27, s', x', .slice p2 L'.length c2, .slice ps2 SC'.length cs2, .slice pw2 WR'.length cw2⟩)) := Lib.hid (GBox.newAt rfl rfl)
    obtain ⟨g7, hg⟩ : ∃ g7, w2.heap.size = g7 := ⟨_, rfl⟩
    have HGg7 := Lib.hid hg
    rw [hg] at K7
    try rw [hg]
    clear hg
    obtain ⟨w3, ew, b⟩ : ∃ wOPN : World, wOPN = (w2.alloc (Gv.obj (⟨27, s', x', .slice p2 L'.length c2, .slice ps2 SC'.length cs2, .slice pw2 WR'.length cw2⟩))) ∧ Below ((w2.alloc (Gv.obj (⟨27, s', x', .slice p2 L'.length c2, .slice ps2 SC'.length cs2, .slice pw2 WR'.length cw2⟩)))).heap.size ((w2.alloc (Gv.obj (⟨27, s', x', .slice p2 L'.length c2, .slice ps2 SC'.length cs2, .slice pw2 WR'.length cw2⟩)))) wOPN := ⟨_, rfl, Below.refl _ _⟩
    rw [← ew]
    clear ew
    have Sw3 := Lib.hid b.size
    have HB := Lib.hid (chain0 (w := w) (by repeat (first | with_reducible exact Below.refl _ _ | with_reducible exact HB.out | with_reducible apply Below.drew | with_reducible apply bdN | with_reducible refine Below.alloc ?_ (by first | exact Nat.le_refl _ | with_reducible exact HB.out.size | omega | (simp; done) | (simp; omega) | (have := HB.out.size; simp at *; omega)) _ | with_reducible refine Below.setCell ?_ (by first | exact Nat.le_refl _ | with_reducible exact HB.out.size | omega | (simp; done) | (simp; omega) | (have := HB.out.size; simp at *; omega)) _)) b)
    have HR := Lib.hid (RdG.below (by repeat (first | with_reducible exact HR.out | with_reducible apply RdG.drewN | with_reducible apply RdG.drew | with_reducible apply RdG.alloc)) b)
    have HZ2 := Lib.hid (SzA.below (by repeat (first | with_reducible exact HZ2.out | with_reducible apply SzA.drewN | with_reducible apply SzA.drew | with_reducible apply SzA.alloc)) b)
    have HG := Lib.hid (OwnG.below (by repeat (first | with_reducible exact HG.out | with_reducible apply OwnG.drewN | with_reducible apply OwnG.drew | with_reducible apply OwnG.alloc)) b)
    have K2 : Hid (GBox _ (w.heap.size) (⟨27, s', a0, .slice p n c, .slice ps ns cs, .slice pw nw cw⟩)) := Lib.hid (GBox.below (by repeat (first | with_reducible exact K2.out | with_reducible apply GBox.drewN | with_reducible apply GBox.drew | (with_reducible refine GBox.newAt ?_ ?_ <;> first | (simp; done) | rfl) | with_reducible apply GBox.alloc)) b)
    have K3 : Hid (CBox _ (w.heap.size + 1) (⟨45, cl⟩)) := Lib.hid (CBox.below (by repeat (first | with_reducible exact K3.out | with_reducible apply CBox.drewN | with_reducible apply CBox.drew | (with_reducible refine CBox.newAt ?_ ?_ <;> first | (simp; done) | rfl) | with_reducible apply CBox.alloc)) b)
    have K4 : Hid (GBox _ (w.heap.size + 1 + 1) (⟨27, 0, 0, .slice none 0 0, .slice none 0 0, .slice none 0 0⟩)) := Lib.hid (GBox.below (by repeat (first | with_reducible exact K4.out | with_reducible apply GBox.drewN | with_reducible apply GBox.drew | (with_reducible refine GBox.newAt ?_ ?_ <;> first | (simp; done) | rfl) | with_reducible apply GBox.alloc)) b)
    have K7 : Hid (GBox _ (g7) (⟨27, s', x', .slice p2 L'.length c2, .slice ps2 SC'.length cs2, .slice pw2 WR'.length cw2⟩)) := Lib.hid (GBox.below (by repeat (first | with_reducible exact K7.out | with_reducible apply GBox.drewN | with_reducible apply GBox.drew | (with_reducible refine GBox.newAt ?_ ?_ <;> first | (simp; done) | rfl) | with_reducible apply GBox.alloc)) b)
    try clear k2a k2b k2c k2d k2e k2z
    have k2z := K2.out.lt
    obtain ⟨k2a, k2b, k2c, k2d, k2e⟩ := K2.out.cell
    try clear k3a k3b k3c k3d k3z
    have k3z := K3.out.lt
    obtain ⟨k3a, k3b, k3c, k3d⟩ := K3.out.cell
    try clear k4a k4b k4c k4d k4e k4z
    have k4z := K4.out.lt
    obtain ⟨k4a, k4b, k4c, k4d, k4e⟩ := K4.out.cell
    try clear k4f
    have k4f := K4.out.frozen
    try clear k7a k7b k7c k7d k7e k7z
    have k7z := K7.out.lt
    obtain ⟨k7a, k7b, k7c, k7d, k7e⟩ := K7.out.cell
    clear b
    have Gg7 := Lib.hid K7.out.lt
    go_wp2_with fail
    try simp only [Exit.inBlock, Exit.then]
    refine bodyPost_ret (res_game3 Try.results28 rfl (K4.out.set_ _ _ _ _ _)) rfl ?_
    have HGf := (((((HG.out.far (g := w.heap.size + 1 + 1) (.inl (by omega)) 0 (.int .i64 s')).far (g := w.heap.size + 1 + 1) (.inl (by omega)) 1 (.int .i64 x')).far (g := w.heap.size + 1 + 1) (.inl (by omega)) 2 (.slice p2 L'.length c2)).far (g := w.heap.size + 1 + 1) (.inl (by omega)) 3 (.slice ps2 SC'.length cs2)).far (g := w.heap.size + 1 + 1) (.inl (by omega)) 4 (.slice pw2 WR'.length cw2))
    refine ⟨_, _, _, rfl, (HGf.base (show w.heap.size ≤ w.heap.size + 1 + 1 + 1 by omega)).top (by have := HZ2.out.h; simpa [World.setCell] using this), by repeat (first | with_reducible exact Below.refl _ _ | with_reducible exact HB.out | with_reducible apply Below.drew | with_reducible apply bdN | with_reducible refine Below.alloc ?_ (by first | exact Nat.le_refl _ | with_reducible exact HB.out.size | omega | (simp; done) | (simp; omega) | (have := HB.out.size; simp at *; omega)) _ | with_reducible refine Below.setCell ?_ (by first | exact Nat.le_refl _ | with_reducible exact HB.out.size | omega | (simp; done) | (simp; omega) | (have := HB.out.size; simp at *; omega)) _)⟩

set_option maxRecDepth 100000 in
set_option maxHeartbeats 4000000 in
theorem spec_mc (g : Gm) (cl : Cd) (p ps pw : Option Addr) (n c ns cs nw cw : Nat) (w : World) (hf : FitG n c ns cs nw cw p ps pw g) (hr : RdG w p ps pw g.l g.sc g.wr) (hw : wfc cl) :
    Calls Try.prog 27 #[gval g.s g.nx (.slice p n c) (.slice ps ns cs) (.slice pw nw cw), cl.val] w fun e w' => ∃ vl vs vw, e = .returned (.tuple #[gval (mcR g cl).1.s (mcR g cl).1.nx vl vs vw, .int .i64 (mcR g cl).2.1, .bool (mcR g cl).2.2]) ∧ OwnG w' w.heap.size w'.heap.size vl vs vw (mcR g cl).1.l (mcR g cl).1.sc (mcR g cl).1.wr ∧ Below w.heap.size w w' := by
  have HR := Lib.hid hr
  have HF := Lib.hid hf
  have HC := Lib.hid (fun w h => l8_game g p ps pw n c ns cs nw cw w hf h)
  have K3 : Hid (CBox (((w.alloc (Gv.obj ⟨27, g.s, g.nx, .slice p n c, .slice ps ns cs, .slice pw nw cw⟩)).alloc (Cv.obj ⟨45, cl⟩)).alloc (Gv.obj ⟨27, 0, 0, .slice none 0 0, .slice none 0 0, .slice none 0 0⟩)) (w.heap.size + 1) ⟨45, cl⟩) := Lib.hid ((CBox.newAt (by simp) rfl).alloc _)
  have K4 : Hid (GBox (((w.alloc (Gv.obj ⟨27, g.s, g.nx, .slice p n c, .slice ps ns cs, .slice pw nw cw⟩)).alloc (Cv.obj ⟨45, cl⟩)).alloc (Gv.obj ⟨27, 0, 0, .slice none 0 0, .slice none 0 0, .slice none 0 0⟩)) (w.heap.size + 1 + 1) ⟨27, 0, 0, .slice none 0 0, .slice none 0 0, .slice none 0 0⟩) := Lib.hid (GBox.newAt (by simp) rfl)
  cases hok : g.ok
  · have HT := Lib.hid (show mcR g cl = (gm0, 0, false) by unfold mcR; rw [if_neg (by simp [hok])])
    rw [hok] at HC
    rw [HT.out]
    clear hf hr hok HT
    obtain ⟨s, nx, l, sc, wt⟩ := g
    simp only at HR HC K3 K4 ⊢
    go_enter Try.func27, Try.ntmps27
    go_upto_region 1 with fail
    obtain ⟨w0, ew, b⟩ : ∃ wOPN : World, wOPN = (((w.alloc (Gv.obj ⟨27, s, nx, .slice p n c, .slice ps ns cs, .slice pw nw cw⟩)).alloc (Cv.obj ⟨45, cl⟩)).alloc (Gv.obj ⟨27, 0, 0, .slice none 0 0, .slice none 0 0, .slice none 0 0⟩)) ∧ Below ((((w.alloc (Gv.obj ⟨27, s, nx, .slice p n c, .slice ps ns cs, .slice pw nw cw⟩)).alloc (Cv.obj ⟨45, cl⟩)).alloc (Gv.obj ⟨27, 0, 0, .slice none 0 0, .slice none 0 0, .slice none 0 0⟩))).heap.size ((((w.alloc (Gv.obj ⟨27, s, nx, .slice p n c, .slice ps ns cs, .slice pw nw cw⟩)).alloc (Cv.obj ⟨45, cl⟩)).alloc (Gv.obj ⟨27, 0, 0, .slice none 0 0, .slice none 0 0, .slice none 0 0⟩))) wOPN := ⟨_, rfl, Below.refl _ _⟩
    rw [← ew]
    clear ew
    have Sw0 := Lib.hid b.size
    have HB := Lib.hid (chain0 (w := w) (by repeat (first | with_reducible exact Below.refl _ _ | with_reducible exact HB.out | with_reducible apply Below.drew | with_reducible apply bdN | with_reducible refine Below.alloc ?_ (by first | exact Nat.le_refl _ | with_reducible exact HB.out.size | omega | (simp; done) | (simp; omega) | (have := HB.out.size; simp at *; omega)) _ | with_reducible refine Below.setCell ?_ (by first | exact Nat.le_refl _ | with_reducible exact HB.out.size | omega | (simp; done) | (simp; omega) | (have := HB.out.size; simp at *; omega)) _)) b)
    have HR := Lib.hid (RdG.below (by repeat (first | with_reducible exact HR.out | with_reducible apply RdG.drewN | with_reducible apply RdG.drew | with_reducible apply RdG.alloc)) b)
    have K2 : Hid (GBox _ (w.heap.size) (⟨27, s, nx, .slice p n c, .slice ps ns cs, .slice pw nw cw⟩)) := Lib.hid (GBox.below (by repeat (first | with_reducible exact K2.out | with_reducible apply GBox.drewN | with_reducible apply GBox.drew | (with_reducible refine GBox.newAt ?_ ?_ <;> first | (simp; done) | rfl) | with_reducible apply GBox.alloc)) b)
    have K3 : Hid (CBox _ (w.heap.size + 1) (⟨45, cl⟩)) := Lib.hid (CBox.below (by repeat (first | with_reducible exact K3.out | with_reducible apply CBox.drewN | with_reducible apply CBox.drew | (with_reducible refine CBox.newAt ?_ ?_ <;> first | (simp; done) | rfl) | with_reducible apply CBox.alloc)) b)
    have K4 : Hid (GBox _ (w.heap.size + 1 + 1) (⟨27, 0, 0, .slice none 0 0, .slice none 0 0, .slice none 0 0⟩)) := Lib.hid (GBox.below (by repeat (first | with_reducible exact K4.out | with_reducible apply GBox.drewN | with_reducible apply GBox.drew | (with_reducible refine GBox.newAt ?_ ?_ <;> first | (simp; done) | rfl) | with_reducible apply GBox.alloc)) b)
    try clear k2a k2b k2c k2d k2e k2z
    have k2z := K2.out.lt
    obtain ⟨k2a, k2b, k2c, k2d, k2e⟩ := K2.out.cell
    try clear k3a k3b k3c k3d k3z
    have k3z := K3.out.lt
    obtain ⟨k3a, k3b, k3c, k3d⟩ := K3.out.cell
    try clear k4a k4b k4c k4d k4e k4z
    have k4z := K4.out.lt
    obtain ⟨k4a, k4b, k4c, k4d, k4e⟩ := K4.out.cell
    try clear k4f
    have k4f := K4.out.frozen
    clear b
    go_wp2_with fail
    refine ((HC.out _ HR.out)).mono ?_
    rintro e w1 ⟨rfl, b⟩
    have Sw1 := Lib.hid b.size
    have HB := Lib.hid (chain0 (w := w) (by repeat (first | with_reducible exact Below.refl _ _ | with_reducible exact HB.out | with_reducible apply Below.drew | with_reducible apply bdN | with_reducible refine Below.alloc ?_ (by first | exact Nat.le_refl _ | with_reducible exact HB.out.size | omega | (simp; done) | (simp; omega) | (have := HB.out.size; simp at *; omega)) _ | with_reducible refine Below.setCell ?_ (by first | exact Nat.le_refl _ | with_reducible exact HB.out.size | omega | (simp; done) | (simp; omega) | (have := HB.out.size; simp at *; omega)) _)) b)
    have HR := Lib.hid (RdG.below (by repeat (first | with_reducible exact HR.out | with_reducible apply RdG.drewN | with_reducible apply RdG.drew | with_reducible apply RdG.alloc)) b)
    have K2 : Hid (GBox _ (w.heap.size) (⟨27, s, nx, .slice p n c, .slice ps ns cs, .slice pw nw cw⟩)) := Lib.hid (GBox.below (by repeat (first | with_reducible exact K2.out | with_reducible apply GBox.drewN | with_reducible apply GBox.drew | (with_reducible refine GBox.newAt ?_ ?_ <;> first | (simp; done) | rfl) | with_reducible apply GBox.alloc)) b)
    have K3 : Hid (CBox _ (w.heap.size + 1) (⟨45, cl⟩)) := Lib.hid (CBox.below (by repeat (first | with_reducible exact K3.out | with_reducible apply CBox.drewN | with_reducible apply CBox.drew | (with_reducible refine CBox.newAt ?_ ?_ <;> first | (simp; done) | rfl) | with_reducible apply CBox.alloc)) b)
    have K4 : Hid (GBox _ (w.heap.size + 1 + 1) (⟨27, 0, 0, .slice none 0 0, .slice none 0 0, .slice none 0 0⟩)) := Lib.hid (GBox.below (by repeat (first | with_reducible exact K4.out | with_reducible apply GBox.drewN | with_reducible apply GBox.drew | (with_reducible refine GBox.newAt ?_ ?_ <;> first | (simp; done) | rfl) | with_reducible apply GBox.alloc)) b)
    try clear k2a k2b k2c k2d k2e k2z
    have k2z := K2.out.lt
    obtain ⟨k2a, k2b, k2c, k2d, k2e⟩ := K2.out.cell
    try clear k3a k3b k3c k3d k3z
    have k3z := K3.out.lt
    obtain ⟨k3a, k3b, k3c, k3d⟩ := K3.out.cell
    try clear k4a k4b k4c k4d k4e k4z
    have k4z := K4.out.lt
    obtain ⟨k4a, k4b, k4c, k4d, k4e⟩ := K4.out.cell
    try clear k4f
    have k4f := K4.out.frozen
    clear b
    go_wp2_with fail
    try simp only [Exit.inBlock, Exit.then]
    refine bodyPost_ret (res_game3 Try.results27 rfl (K4.out.set_ _ _ _ _ _)) rfl ?_
    exact ⟨.slice none 0 0, .slice none 0 0, .slice none 0 0, rfl, (OwnG.empty _ _).top (by have := HB.out.size; simpa [World.setCell] using this), by repeat (first | with_reducible exact Below.refl _ _ | with_reducible exact HB.out | with_reducible apply Below.drew | with_reducible apply bdN | with_reducible refine Below.alloc ?_ (by first | exact Nat.le_refl _ | with_reducible exact HB.out.size | omega | (simp; done) | (simp; omega) | (have := HB.out.size; simp at *; omega)) _ | with_reducible refine Below.setCell ?_ (by first | exact Nat.le_refl _ | with_reducible exact HB.out.size | omega | (simp; done) | (simp; omega) | (have := HB.out.size; simp at *; omega)) _)⟩
  · have ho := Gm.ok_iff.1 hok
    have HT := Lib.hid (show mcR g cl = (made g cl, madeK g cl, true) by unfold mcR; rw [if_pos hok])
    have HS := Lib.hid (made_s (c := cl) ho)
    obtain ⟨s, nx, l, sc, wt⟩ := g
    obtain ⟨a0, rfl⟩ : ∃ a0 : Nat, nx = (a0 : Int) := ⟨nx.toNat, by have h : 0 ≤ nx := ho.d.2.1.1; omega⟩
    have HK := Lib.hid (fun w h => spec_mk s a0 l sc wt cl p ps pw n c ns cs nw cw w ho hf.hn hf.hs hf.hw hf.z h hw)
    rw [hok] at HC
    rw [HT.out]
    obtain ⟨kd, hkd⟩ : ∃ kd, madeK ⟨s, a0, l, sc, wt⟩ cl = kd := ⟨_, rfl⟩
    obtain ⟨G, hG⟩ : ∃ G, made ⟨s, a0, l, sc, wt⟩ cl = G := ⟨_, rfl⟩
    rw [hkd, hG] at HK ⊢
    rw [hG] at HS
    obtain ⟨s', x', L', SC', WR'⟩ := G
    have hs' : s' = s := HS.out
    subst hs'
    clear hf hr hok HT hkd hG ho HS
    simp only at HR HC HK K3 K4 ⊢
    go_enter Try.func27, Try.ntmps27
    go_upto_region 1 with fail
    obtain ⟨w0, ew, b⟩ : ∃ wOPN : World, wOPN = (((w.alloc (Gv.obj ⟨27, s', a0, .slice p n c, .slice ps ns cs, .slice pw nw cw⟩)).alloc (Cv.obj ⟨45, cl⟩)).alloc (Gv.obj ⟨27, 0, 0, .slice none 0 0, .slice none 0 0, .slice none 0 0⟩)) ∧ Below ((((w.alloc (Gv.obj ⟨27, s', a0, .slice p n c, .slice ps ns cs, .slice pw nw cw⟩)).alloc (Cv.obj ⟨45, cl⟩)).alloc (Gv.obj ⟨27, 0, 0, .slice none 0 0, .slice none 0 0, .slice none 0 0⟩))).heap.size ((((w.alloc (Gv.obj ⟨27, s', a0, .slice p n c, .slice ps ns cs, .slice pw nw cw⟩)).alloc (Cv.obj ⟨45, cl⟩)).alloc (Gv.obj ⟨27, 0, 0, .slice none 0 0, .slice none 0 0, .slice none 0 0⟩))) wOPN := ⟨_, rfl, Below.refl _ _⟩
    rw [← ew]
    clear ew
    have Sw0 := Lib.hid b.size
    have HB := Lib.hid (chain0 (w := w) (by repeat (first | with_reducible exact Below.refl _ _ | with_reducible exact HB.out | with_reducible apply Below.drew | with_reducible apply bdN | with_reducible refine Below.alloc ?_ (by first | exact Nat.le_refl _ | with_reducible exact HB.out.size | omega | (simp; done) | (simp; omega) | (have := HB.out.size; simp at *; omega)) _ | with_reducible refine Below.setCell ?_ (by first | exact Nat.le_refl _ | with_reducible exact HB.out.size | omega | (simp; done) | (simp; omega) | (have := HB.out.size; simp at *; omega)) _)) b)
    have HR := Lib.hid (RdG.below (by repeat (first | with_reducible exact HR.out | with_reducible apply RdG.drewN | with_reducible apply RdG.drew | with_reducible apply RdG.alloc)) b)
    have K2 : Hid (GBox _ (w.heap.size) (⟨27, s', a0, .slice p n c, .slice ps ns cs, .slice pw nw cw⟩)) := Lib.hid (GBox.below (by repeat (first | with_reducible exact K2.out | with_reducible apply GBox.drewN | with_reducible apply GBox.drew | (with_reducible refine GBox.newAt ?_ ?_ <;> first | (simp; done) | rfl) | with_reducible apply GBox.alloc)) b)
    have K3 : Hid (CBox _ (w.heap.size + 1) (⟨45, cl⟩)) := Lib.hid (CBox.below (by repeat (first | with_reducible exact K3.out | with_reducible apply CBox.drewN | with_reducible apply CBox.drew | (with_reducible refine CBox.newAt ?_ ?_ <;> first | (simp; done) | rfl) | with_reducible apply CBox.alloc)) b)
    have K4 : Hid (GBox _ (w.heap.size + 1 + 1) (⟨27, 0, 0, .slice none 0 0, .slice none 0 0, .slice none 0 0⟩)) := Lib.hid (GBox.below (by repeat (first | with_reducible exact K4.out | with_reducible apply GBox.drewN | with_reducible apply GBox.drew | (with_reducible refine GBox.newAt ?_ ?_ <;> first | (simp; done) | rfl) | with_reducible apply GBox.alloc)) b)
    try clear k2a k2b k2c k2d k2e k2z
    have k2z := K2.out.lt
    obtain ⟨k2a, k2b, k2c, k2d, k2e⟩ := K2.out.cell
    try clear k3a k3b k3c k3d k3z
    have k3z := K3.out.lt
    obtain ⟨k3a, k3b, k3c, k3d⟩ := K3.out.cell
    try clear k4a k4b k4c k4d k4e k4z
    have k4z := K4.out.lt
    obtain ⟨k4a, k4b, k4c, k4d, k4e⟩ := K4.out.cell
    try clear k4f
    have k4f := K4.out.frozen
    clear b
    go_wp2_with fail
    refine ((HC.out _ HR.out)).mono ?_
    rintro e w1 ⟨rfl, b⟩
    have Sw1 := Lib.hid b.size
    have HB := Lib.hid (chain0 (w := w) (by repeat (first | with_reducible exact Below.refl _ _ | with_reducible exact HB.out | with_reducible apply Below.drew | with_reducible apply bdN | with_reducible refine Below.alloc ?_ (by first | exact Nat.le_refl _ | with_reducible exact HB.out.size | omega | (simp; done) | (simp; omega) | (have := HB.out.size; simp at *; omega)) _ | with_reducible refine Below.setCell ?_ (by first | exact Nat.le_refl _ | with_reducible exact HB.out.size | omega | (simp; done) | (simp; omega) | (have := HB.out.size; simp at *; omega)) _)) b)
    have HR := Lib.hid (RdG.below (by repeat (first | with_reducible exact HR.out | with_reducible apply RdG.drewN | with_reducible apply RdG.drew | with_reducible apply RdG.alloc)) b)
    have K2 : Hid (GBox _ (w.heap.size) (⟨27, s', a0, .slice p n c, .slice ps ns cs, .slice pw nw cw⟩)) := Lib.hid (GBox.below (by repeat (first | with_reducible exact K2.out | with_reducible apply GBox.drewN | with_reducible apply GBox.drew | (with_reducible refine GBox.newAt ?_ ?_ <;> first | (simp; done) | rfl) | with_reducible apply GBox.alloc)) b)
    have K3 : Hid (CBox _ (w.heap.size + 1) (⟨45, cl⟩)) := Lib.hid (CBox.below (by repeat (first | with_reducible exact K3.out | with_reducible apply CBox.drewN | with_reducible apply CBox.drew | (with_reducible refine CBox.newAt ?_ ?_ <;> first | (simp; done) | rfl) | with_reducible apply CBox.alloc)) b)
    have K4 : Hid (GBox _ (w.heap.size + 1 + 1) (⟨27, 0, 0, .slice none 0 0, .slice none 0 0, .slice none 0 0⟩)) := Lib.hid (GBox.below (by repeat (first | with_reducible exact K4.out | with_reducible apply GBox.drewN | with_reducible apply GBox.drew | (with_reducible refine GBox.newAt ?_ ?_ <;> first | (simp; done) | rfl) | with_reducible apply GBox.alloc)) b)
    try clear k2a k2b k2c k2d k2e k2z
    have k2z := K2.out.lt
    obtain ⟨k2a, k2b, k2c, k2d, k2e⟩ := K2.out.cell
    try clear k3a k3b k3c k3d k3z
    have k3z := K3.out.lt
    obtain ⟨k3a, k3b, k3c, k3d⟩ := K3.out.cell
    try clear k4a k4b k4c k4d k4e k4z
    have k4z := K4.out.lt
    obtain ⟨k4a, k4b, k4c, k4d, k4e⟩ := K4.out.cell
    try clear k4f
    have k4f := K4.out.frozen
    clear b
    have HZ1 := Lib.hid (show w.heap.size + 1 + 1 + 1 ≤ w1.heap.size from K4.out.lt)
    go_wp2_with fail
    refine (HK.out _ (by repeat (first | with_reducible exact HR.out | with_reducible apply RdG.drewN | with_reducible apply RdG.drew | with_reducible apply RdG.alloc))).mono ?_
    rintro e w2 ⟨vl, vs, vw, rfl, hg, b⟩
    obtain ⟨p2, c2, ps2, cs2, pw2, cw2, rfl, rfl, rfl, -⟩ := hg.form
    have HG := Lib.hid (hg.base HZ1.out)
    have Sw2 := Lib.hid b.size
    have HB := Lib.hid (chain0 (w := w) (by repeat (first | with_reducible exact Below.refl _ _ | with_reducible exact HB.out | with_reducible apply Below.drew | with_reducible apply bdN | with_reducible refine Below.alloc ?_ (by first | exact Nat.le_refl _ | with_reducible exact HB.out.size | omega | (simp; done) | (simp; omega) | (have := HB.out.size; simp at *; omega)) _ | with_reducible refine Below.setCell ?_ (by first | exact Nat.le_refl _ | with_reducible exact HB.out.size | omega | (simp; done) | (simp; omega) | (have := HB.out.size; simp at *; omega)) _)) b)
    have HR := Lib.hid (RdG.below (by repeat (first | with_reducible exact HR.out | with_reducible apply RdG.drewN | with_reducible apply RdG.drew | with_reducible apply RdG.alloc)) b)
    have K2 : Hid (GBox _ (w.heap.size) (⟨27, s', a0, .slice p n c, .slice ps ns cs, .slice pw nw cw⟩)) := Lib.hid (GBox.below (by repeat (first | with_reducible exact K2.out | with_reducible apply GBox.drewN | with_reducible apply GBox.drew | (with_reducible refine GBox.newAt ?_ ?_ <;> first | (simp; done) | rfl) | with_reducible apply GBox.alloc)) b)
    have K3 : Hid (CBox _ (w.heap.size + 1) (⟨45, cl⟩)) := Lib.hid (CBox.below (by repeat (first | with_reducible exact K3.out | with_reducible apply CBox.drewN | with_reducible apply CBox.drew | (with_reducible refine CBox.newAt ?_ ?_ <;> first | (simp; done) | rfl) | with_reducible apply CBox.alloc)) b)
    have K4 : Hid (GBox _ (w.heap.size + 1 + 1) (⟨27, 0, 0, .slice none 0 0, .slice none 0 0, .slice none 0 0⟩)) := Lib.hid (GBox.below (by repeat (first | with_reducible exact K4.out | with_reducible apply GBox.drewN | with_reducible apply GBox.drew | (with_reducible refine GBox.newAt ?_ ?_ <;> first | (simp; done) | rfl) | with_reducible apply GBox.alloc)) b)
    try clear k2a k2b k2c k2d k2e k2z
    have k2z := K2.out.lt
    obtain ⟨k2a, k2b, k2c, k2d, k2e⟩ := K2.out.cell
    try clear k3a k3b k3c k3d k3z
    have k3z := K3.out.lt
    obtain ⟨k3a, k3b, k3c, k3d⟩ := K3.out.cell
    try clear k4a k4b k4c k4d k4e k4z
    have k4z := K4.out.lt
    obtain ⟨k4a, k4b, k4c, k4d, k4e⟩ := K4.out.cell
    try clear k4f
    have k4f := K4.out.frozen
    clear b
    clear hg
    have HZ2 : Hid (SzA w2 w2.heap.size) := Lib.hid ⟨Nat.le_refl _⟩
    go_upto_region 4 with fail
    have K7 : Hid (GBox (w2.alloc (Gv.obj (⟨27, s', x', .slice p2 L'.length c2, .slice ps2 SC'.length cs2, .slice pw2 WR'.length cw2⟩))) w2.heap.size (⟨27, s', x', .slice p2 L'.length c2, .slice ps2 SC'.length cs2, .slice pw2 WR'.length cw2⟩)) := Lib.hid (GBox.newAt rfl rfl)
    obtain ⟨g7, hg⟩ : ∃ g7, w2.heap.size = g7 := ⟨_, rfl⟩
    have HGg7 := Lib.hid hg
    rw [hg] at K7
    try rw [hg]
    clear hg
    obtain ⟨w3, ew, b⟩ : ∃ wOPN : World, wOPN = (w2.alloc (Gv.obj (⟨27, s', x', .slice p2 L'.length c2, .slice ps2 SC'.length cs2, .slice pw2 WR'.length cw2⟩))) ∧ Below ((w2.alloc (Gv.obj (⟨27, s', x', .slice p2 L'.length c2, .slice ps2 SC'.length cs2, .slice pw2 WR'.length cw2⟩)))).heap.size ((w2.alloc (Gv.obj (⟨27, s', x', .slice p2 L'.length c2, .slice ps2 SC'.length cs2, .slice pw2 WR'.length cw2⟩)))) wOPN := ⟨_, rfl, Below.refl _ _⟩
    rw [← ew]
    clear ew
    have Sw3 := Lib.hid b.size
    have HB := Lib.hid (chain0 (w := w) (by repeat (first | with_reducible exact Below.refl _ _ | with_reducible exact HB.out | with_reducible apply Below.drew | with_reducible apply bdN | with_reducible refine Below.alloc ?_ (by first | exact Nat.le_refl _ | with_reducible exact HB.out.size | omega | (simp; done) | (simp; omega) | (have := HB.out.size; simp at *; omega)) _ | with_reducible refine Below.setCell ?_ (by first | exact Nat.le_refl _ | with_reducible exact HB.out.size | omega | (simp; done) | (simp; omega) | (have := HB.out.size; simp at *; omega)) _)) b)
    have HR := Lib.hid (RdG.below (by repeat (first | with_reducible exact HR.out | with_reducible apply RdG.drewN | with_reducible apply RdG.drew | with_reducible apply RdG.alloc)) b)
    have HZ2 := Lib.hid (SzA.below (by repeat (first | with_reducible exact HZ2.out | with_reducible apply SzA.drewN | with_reducible apply SzA.drew | with_reducible apply SzA.alloc)) b)
    have HG := Lib.hid (OwnG.below (by repeat (first | with_reducible exact HG.out | with_reducible apply OwnG.drewN | with_reducible apply OwnG.drew | with_reducible apply OwnG.alloc)) b)
    have K2 : Hid (GBox _ (w.heap.size) (⟨27, s', a0, .slice p n c, .slice ps ns cs, .slice pw nw cw⟩)) := Lib.hid (GBox.below (by repeat (first | with_reducible exact K2.out | with_reducible apply GBox.drewN | with_reducible apply GBox.drew | (with_reducible refine GBox.newAt ?_ ?_ <;> first | (simp; done) | rfl) | with_reducible apply GBox.alloc)) b)
    have K3 : Hid (CBox _ (w.heap.size + 1) (⟨45, cl⟩)) := Lib.hid (CBox.below (by repeat (first | with_reducible exact K3.out | with_reducible apply CBox.drewN | with_reducible apply CBox.drew | (with_reducible refine CBox.newAt ?_ ?_ <;> first | (simp; done) | rfl) | with_reducible apply CBox.alloc)) b)
    have K4 : Hid (GBox _ (w.heap.size + 1 + 1) (⟨27, 0, 0, .slice none 0 0, .slice none 0 0, .slice none 0 0⟩)) := Lib.hid (GBox.below (by repeat (first | with_reducible exact K4.out | with_reducible apply GBox.drewN | with_reducible apply GBox.drew | (with_reducible refine GBox.newAt ?_ ?_ <;> first | (simp; done) | rfl) | with_reducible apply GBox.alloc)) b)
    have K7 : Hid (GBox _ (g7) (⟨27, s', x', .slice p2 L'.length c2, .slice ps2 SC'.length cs2, .slice pw2 WR'.length cw2⟩)) := Lib.hid (GBox.below (by repeat (first | with_reducible exact K7.out | with_reducible apply GBox.drewN | with_reducible apply GBox.drew | (with_reducible refine GBox.newAt ?_ ?_ <;> first | (simp; done) | rfl) | with_reducible apply GBox.alloc)) b)
    try clear k2a k2b k2c k2d k2e k2z
    have k2z := K2.out.lt
    obtain ⟨k2a, k2b, k2c, k2d, k2e⟩ := K2.out.cell
    try clear k3a k3b k3c k3d k3z
    have k3z := K3.out.lt
    obtain ⟨k3a, k3b, k3c, k3d⟩ := K3.out.cell
    try clear k4a k4b k4c k4d k4e k4z
    have k4z := K4.out.lt
    obtain ⟨k4a, k4b, k4c, k4d, k4e⟩ := K4.out.cell
    try clear k4f
    have k4f := K4.out.frozen
    try clear k7a k7b k7c k7d k7e k7z
    have k7z := K7.out.lt
    obtain ⟨k7a, k7b, k7c, k7d, k7e⟩ := K7.out.cell
    clear b
    have Gg7 := Lib.hid K7.out.lt
    go_wp2_with fail
    try simp only [Exit.inBlock, Exit.then]
    refine bodyPost_ret (res_game3 Try.results27 rfl (K4.out.set_ _ _ _ _ _)) rfl ?_
    have HGf := (((((HG.out.far (g := w.heap.size + 1 + 1) (.inl (by omega)) 0 (.int .i64 s')).far (g := w.heap.size + 1 + 1) (.inl (by omega)) 1 (.int .i64 x')).far (g := w.heap.size + 1 + 1) (.inl (by omega)) 2 (.slice p2 L'.length c2)).far (g := w.heap.size + 1 + 1) (.inl (by omega)) 3 (.slice ps2 SC'.length cs2)).far (g := w.heap.size + 1 + 1) (.inl (by omega)) 4 (.slice pw2 WR'.length cw2))
    refine ⟨_, _, _, rfl, (HGf.base (show w.heap.size ≤ w.heap.size + 1 + 1 + 1 by omega)).top (by have := HZ2.out.h; simpa [World.setCell] using this), by repeat (first | with_reducible exact Below.refl _ _ | with_reducible exact HB.out | with_reducible apply Below.drew | with_reducible apply bdN | with_reducible refine Below.alloc ?_ (by first | exact Nat.le_refl _ | with_reducible exact HB.out.size | omega | (simp; done) | (simp; omega) | (have := HB.out.size; simp at *; omega)) _ | with_reducible refine Below.setCell ?_ (by first | exact Nat.le_refl _ | with_reducible exact HB.out.size | omega | (simp; done) | (simp; omega) | (have := HB.out.size; simp at *; omega)) _)⟩
end Go.Proofs.Yteccbcbijfcpmaa.game

