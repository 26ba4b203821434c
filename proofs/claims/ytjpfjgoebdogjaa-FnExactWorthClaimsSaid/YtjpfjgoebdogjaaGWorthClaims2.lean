/- Merged texts: Jg, Jh, Ji, Jk, Jl, Jn, Jp, Jq, Jr, Em. -/
import Derived.Test.YtjpfjgoebdogjaaGWorthClaims1
import Derived.Test.YtjpfjgoebdogjaaQn
import Derived.Deep.LoopGhost
import Derived.Deep.CutBlock
import Derived.Test.YtjpfjgoebdogjaaGWorthClaims0
import Derived.Test.YtjpfjgoebdogjaaQt
/- A claim is made: the model's. -/
namespace Go.Proofs.Ytjpfjgoebdogjaa.game
open Go.RowKit
open cards deal reg
set_option linter.unusedVariables false

set_option maxRecDepth 100000 in
set_option maxHeartbeats 4000000 in
theorem spec_mk (s : Int) (a0 : Nat) (l : List Cd) (sc wt : List Int) (cl : Cd) (p ps pw : Option Addr) (n c ns cs nw cw : Nat) (w : World) (ho : (Gm.mk s a0 l sc wt).okP) (hn : l.length = n) (hs : sc.length = ns) (hw : wt.length = nw) (h0 : p = none → c = 0) (hr : RdG w p ps pw l sc wt) (hc : wfc cl) :
    Calls Try.prog 29 #[gval s a0 (.slice p n c) (.slice ps ns cs) (.slice pw nw cw), cl.val] w fun e w' => ∃ vl vs vw, e = .returned (.tuple #[gval s (made ⟨s, a0, l, sc, wt⟩ cl).nx vl vs vw, .int .i64 (madeK ⟨s, a0, l, sc, wt⟩ cl)]) ∧ OwnG w' w.heap.size w'.heap.size vl vs vw (made ⟨s, a0, l, sc, wt⟩ cl).l (made ⟨s, a0, l, sc, wt⟩ cl).sc (made ⟨s, a0, l, sc, wt⟩ cl).wr ∧ Below w.heap.size w w' := by
  have hd0 : (Dl.mk s a0 l).okP := ho.d
  have hn81 : n ≤ 81 := by rw [← hn]; exact hd0.len81
  have hns1 : 0 < ns := by rw [← hs]; exact ho.p1
  have hns4 : ns ≤ 4 := by rw [← hs]; exact ho.p4
  have hnw : nw = ns := by rw [← hw, ← hs]; exact ho.eq
  subst hnw
  have HO := Lib.hid ho
  have HN := Lib.hid hn
  have HS := Lib.hid hs
  have HW := Lib.hid hw
  have HR0 := Lib.hid hr
  have H0 := Lib.hid h0
  have HD0 := Lib.hid hd0
  have HU := Lib.hid (up_ok hd0)
  have HUs := Lib.hid (up_s hd0)
  have HMk : Hid (made ⟨s, a0, l, sc, wt⟩ cl = ⟨(madeD ⟨s, a0, l, sc, wt⟩ cl).s, (madeD ⟨s, a0, l, sc, wt⟩ cl).nx, (madeD ⟨s, a0, l, sc, wt⟩ cl).l, madeS ⟨s, a0, l, sc, wt⟩ cl, madeW ⟨s, a0, l, sc, wt⟩ cl⟩) := Lib.hid rfl
  have HK : Hid (madeK ⟨s, a0, l, sc, wt⟩ cl = kind (up ⟨s, a0, l⟩).l nw cl) := Lib.hid (by rw [← hs]; rfl)
  have HMD : Hid (madeD ⟨s, a0, l, sc, wt⟩ cl = if madeK ⟨s, a0, l, sc, wt⟩ cl = 1 then takeD (up ⟨s, a0, l⟩) (plc cl) else up ⟨s, a0, l⟩) := Lib.hid rfl
  have HMS : Hid (madeS ⟨s, a0, l, sc, wt⟩ cl = if madeK ⟨s, a0, l, sc, wt⟩ cl = 1 then bump sc cl.a.toNat else sc) := Lib.hid rfl
  have HMW : Hid (madeW ⟨s, a0, l, sc, wt⟩ cl = if madeK ⟨s, a0, l, sc, wt⟩ cl = 2 then bump wt cl.a.toNat else wt) := Lib.hid rfl
  obtain ⟨G, hG⟩ : ∃ G, made ⟨s, a0, l, sc, wt⟩ cl = G := ⟨_, rfl⟩
  rw [hG] at HMk ⊢
  clear hG
  obtain ⟨kd, hkd⟩ : ∃ kd, madeK ⟨s, a0, l, sc, wt⟩ cl = kd := ⟨_, rfl⟩
  rw [hkd] at HK HMD HMS HMW ⊢
  clear hkd
  obtain ⟨MD, hMD⟩ : ∃ MD, madeD ⟨s, a0, l, sc, wt⟩ cl = MD := ⟨_, rfl⟩
  obtain ⟨MS, hMS⟩ : ∃ MS, madeS ⟨s, a0, l, sc, wt⟩ cl = MS := ⟨_, rfl⟩
  obtain ⟨MW, hMW⟩ : ∃ MW, madeW ⟨s, a0, l, sc, wt⟩ cl = MW := ⟨_, rfl⟩
  rw [hMD, hMS, hMW] at HMk
  rw [hMD] at HMD
  rw [hMS] at HMS
  rw [hMW] at HMW
  clear hMD hMS hMW
  obtain ⟨U, hU⟩ : ∃ U, up ⟨s, a0, l⟩ = U := ⟨_, rfl⟩
  rw [hU] at HU HUs HK HMD
  have HUe := Lib.hid hU
  have HCp := Lib.hid (fun w h => l8_own s a0 l sc wt p ps pw n c nw cs nw cw w hn hs hw (by omega) (by omega) (by omega) hns1 hns1 h0 h)
  clear ho hn hs hw hr h0 hd0 hU
  have K3 : Hid (CBox (((w.alloc (Gv.obj ⟨33, s, a0, .slice p n c, .slice ps nw cs, .slice pw nw cw⟩)).alloc (Cv.obj ⟨61, cl⟩)).alloc (Gv.obj ⟨33, 0, 0, .slice none 0 0, .slice none 0 0, .slice none 0 0⟩)) (w.heap.size + 1) ⟨61, cl⟩) := Lib.hid ((CBox.newAt (by simp) rfl).alloc _)
  have K4 : Hid (GBox (((w.alloc (Gv.obj ⟨33, s, a0, .slice p n c, .slice ps nw cs, .slice pw nw cw⟩)).alloc (Cv.obj ⟨61, cl⟩)).alloc (Gv.obj ⟨33, 0, 0, .slice none 0 0, .slice none 0 0, .slice none 0 0⟩)) (w.heap.size + 1 + 1) ⟨33, 0, 0, .slice none 0 0, .slice none 0 0, .slice none 0 0⟩) := Lib.hid (GBox.newAt (by simp) rfl)
  have K2 : Hid (GBox (((w.alloc (Gv.obj ⟨33, s, a0, .slice p n c, .slice ps nw cs, .slice pw nw cw⟩)).alloc (Cv.obj ⟨61, cl⟩)).alloc (Gv.obj ⟨33, 0, 0, .slice none 0 0, .slice none 0 0, .slice none 0 0⟩)) w.heap.size ⟨33, s, a0, .slice p n c, .slice ps nw cs, .slice pw nw cw⟩) := Lib.hid (((GBox.newAt rfl rfl).alloc _).alloc _)
  have HB : Hid (Below w.heap.size w (((w.alloc (Gv.obj ⟨33, s, a0, .slice p n c, .slice ps nw cs, .slice pw nw cw⟩)).alloc (Cv.obj ⟨61, cl⟩)).alloc (Gv.obj ⟨33, 0, 0, .slice none 0 0, .slice none 0 0, .slice none 0 0⟩))) := Lib.hid ((((Below.refl _ _).alloc (Nat.le_refl _) _).alloc (by simp) _).alloc (by simp; omega) _)
  go_enter Try.func29, Try.ntmps29
  go_upto_region 1 with fail
  generalize (((w.alloc (Gv.obj ⟨33, s, a0, .slice p n c, .slice ps nw cs, .slice pw nw cw⟩)).alloc (Cv.obj ⟨61, cl⟩)).alloc (Gv.obj ⟨33, 0, 0, .slice none 0 0, .slice none 0 0, .slice none 0 0⟩)) = W0 at K2 K3 K4 HB ⊢
  have HZ0 := Lib.hid (show w.heap.size + 1 + 1 + 1 ≤ W0.heap.size from K4.out.lt)
  obtain ⟨k2a, k2b, k2c, k2d, k2e⟩ := K2.out.cell
  have k2z := K2.out.lt
  have HR := Lib.hid (RdG.below HR0.out HB.out)
  go_wp2_with fail
  refine (HCp.out _ (by repeat (first | with_reducible exact HR.out | with_reducible apply RdG.drewN | with_reducible apply RdG.drew | with_reducible apply RdG.alloc))).mono ?_
  rintro e w1 ⟨vl, vs, vw, rfl, hg1, b⟩
  have HB1 := Lib.hid (chain0 (w := w) HB.out b)
  have K31 := Lib.hid (K3.out.below b)
  have K41 := Lib.hid (K4.out.below b)
  have HG1 := Lib.hid (hg1.base (show w.heap.size + 1 + 1 + 1 ≤ W0.heap.size from HZ0.out))
  have HZ1 := Lib.hid (Nat.le_trans HZ0.out b.size)
  clear b hg1 k2a k2b k2c k2d k2e k2z HB K2 K3 K4 HR
  obtain ⟨gs, cs1, rfl⟩ := own_ps HG1.out.o2 HS.out hns1
  obtain ⟨gw, cw1, rfl⟩ := own_ps HG1.out.o3 HW.out hns1
  obtain ⟨p1, c1, rfl, -⟩ := HG1.out.o1.form
  rw [HN.out] at HG1 ⊢
  have K6 : Hid (GBox (w1.alloc (Gv.obj ⟨33, s, a0, .slice p1 n c1, .slice (some ⟨gs, 0, none⟩) nw cs1, .slice (some ⟨gw, 0, none⟩) nw cw1⟩)) w1.heap.size ⟨33, s, a0, .slice p1 n c1, .slice (some ⟨gs, 0, none⟩) nw cs1, .slice (some ⟨gw, 0, none⟩) nw cw1⟩) := Lib.hid (GBox.newAt rfl rfl)
  have HB2 := Lib.hid (HB1.out.alloc HB1.out.size (Gv.obj ⟨33, s, a0, .slice p1 n c1, .slice (some ⟨gs, 0, none⟩) nw cs1, .slice (some ⟨gw, 0, none⟩) nw cw1⟩))
  have K32 := Lib.hid (K31.out.alloc (Gv.obj ⟨33, s, a0, .slice p1 n c1, .slice (some ⟨gs, 0, none⟩) nw cs1, .slice (some ⟨gw, 0, none⟩) nw cw1⟩))
  have K42 := Lib.hid (K41.out.alloc (Gv.obj ⟨33, s, a0, .slice p1 n c1, .slice (some ⟨gs, 0, none⟩) nw cs1, .slice (some ⟨gw, 0, none⟩) nw cw1⟩))
  have HG2 := Lib.hid (HG1.out.alloc (Gv.obj ⟨33, s, a0, .slice p1 n c1, .slice (some ⟨gs, 0, none⟩) nw cs1, .slice (some ⟨gw, 0, none⟩) nw cw1⟩))
  obtain ⟨g6, hg6⟩ : ∃ g6, w1.heap.size = g6 := ⟨_, rfl⟩
  rw [hg6] at K6
  have HG6 := Lib.hid (show w.heap.size + 1 + 1 + 1 ≤ g6 by have := HZ1.out; omega)
  go_upto_block 0 with fail
  try rw [hg6]
  have HC6 := Lib.hid (show g6 ≤ (w1.alloc (Gv.obj ⟨33, s, a0, .slice p1 n c1, .slice (some ⟨gs, 0, none⟩) nw cs1, .slice (some ⟨gw, 0, none⟩) nw cw1⟩)).heap.size by have := K6.out.lt; omega)
  rw [hg6] at HG2
  clear hg6
  have HG3 := Lib.hid (HG2.out.top HC6.out)
  clear HG1 K31 K41 HB1 HG2 HZ1 HZ0
  generalize (w1.alloc (Gv.obj ⟨33, s, a0, .slice p1 n c1, .slice (some ⟨gs, 0, none⟩) nw cs1, .slice (some ⟨gw, 0, none⟩) nw cw1⟩)) = W2 at K6 HB2 K32 K42 HG3 HC6 ⊢
  clear w1
  go_cut [] from 8 (fun wx => ∃ (a : Nat) (m : Nat) (L : List Cd) (p2 : Option Addr) (c2 : Nat), m ≤ 81 ∧ a ≤ 81 ∧ L.length = m ∧ Hid (U = ⟨s, a, L⟩) ∧ Hid (GBox wx g6 ⟨33, s, a, .slice p2 m c2, .slice (some ⟨gs, 0, none⟩) nw cs1, .slice (some ⟨gw, 0, none⟩) nw cw1⟩) ∧ Hid (OwnG wx (w.heap.size + 1 + 1 + 1) wx.heap.size (.slice p2 m c2) (.slice (some ⟨gs, 0, none⟩) nw cs1) (.slice (some ⟨gw, 0, none⟩) nw cw1) L sc wt) ∧ Hid (Below w.heap.size w wx) ∧ Hid (CBox wx (w.heap.size + 1) ⟨61, cl⟩) ∧ Hid (GBox wx (w.heap.size + 1 + 1) ⟨33, 0, 0, .slice none 0 0, .slice none 0 0, .slice none 0 0⟩))
  case first =>
    go_wp2_with fail
    go_loopg [] 81 (fun k wr => ∃ (a : Nat) (m : Nat) (L : List Cd) (p2 : Option Addr) (c2 : Nat), m ≤ 81 ∧ a ≤ 81 ∧ 81 - a ≤ k ∧ L.length = m ∧ Hid (up ⟨s, a, L⟩ = U) ∧ Hid ((Dl.mk s a L).okP) ∧ Hid (GBox wr g6 ⟨33, s, a, .slice p2 m c2, .slice (some ⟨gs, 0, none⟩) nw cs1, .slice (some ⟨gw, 0, none⟩) nw cw1⟩) ∧ Hid (OwnG wr (w.heap.size + 1 + 1 + 1) wr.heap.size (.slice p2 m c2) (.slice (some ⟨gs, 0, none⟩) nw cs1) (.slice (some ⟨gw, 0, none⟩) nw cw1) L sc wt) ∧ Hid (Below w.heap.size w wr) ∧ Hid (CBox wr (w.heap.size + 1) ⟨61, cl⟩) ∧ Hid (GBox wr (w.heap.size + 1 + 1) ⟨33, 0, 0, .slice none 0 0, .slice none 0 0, .slice none 0 0⟩))
    case atStart => exact ⟨a0, n, l, p1, c1, hn81, (by have := HD0.out.2.1.2; simp only at this; omega), by omega, HN.out, HUe, HD0, K6, HG3, HB2, K32, K42⟩
    case round =>
      clear K6 HB2 K32 K42 HG3 HC6
      obtain ⟨a, m, L, p2, c2, hm, ha, hk, hLm, HUe2, HOk, K6, HG, HB, K3, K4⟩ := hrel
      obtain ⟨k6a, k6b, k6c, k6d, k6e⟩ := K6.out.cell
      have k6z := K6.out.lt
      have k6f := K6.out.frozen
      have HLm := Lib.hid hLm
      have HR := Lib.hid (Own.rd HG.out.o1)
      have HZr : Hid (SzA wr wr.heap.size) := Lib.hid ⟨Nat.le_refl _⟩
      have HLi := Lib.hid (fun w h => l4_lines L p2 m c2 w hLm hm h HOk.out.cards HOk.out.2.2.2)
      have HN0 := Lib.hid (Own.nil0 HG.out.o1)
      obtain ⟨z, hz⟩ : ∃ z, (lines L).length = z := ⟨_, rfl⟩
      have HZl := Lib.hid hz
      have hst : stuckD ⟨s, a, L⟩ = decide (z = 0) := by rw [← hz]; unfold stuckD; cases lines L <;> simp
      clear hLm hz
      by_cases hz0 : z = 0
      · subst hz0
        have hst : stuckD ⟨s, a, L⟩ = true := by rw [hst]; rfl
        by_cases ha81 : a < 81
        · have HGo : Hid ((Dl.mk s a L).nx < 81) := Lib.hid (show (a : Int) < 81 by omega)
          have hup := up_go HOk.out ⟨hst, HGo.out⟩
          have hnx := lay3_nx HOk.out HGo.out
          have hlok := lay_ok (n := 3) HOk.out (by omega)
          have HLy := Lib.hid (fun w h => l4_lay s a 3 L p2 m c2 w HOk.out.1 ha ⟨by omega, by omega⟩ HLm.out (by omega) h HN0.out)
          obtain ⟨L2, hL2⟩ : ∃ L2, (layD ⟨s, a, L⟩ 3).l = L2 := ⟨_, rfl⟩
          obtain ⟨a2, ha2⟩ : ∃ a2 : Nat, (layD ⟨s, a, L⟩ 3).nx = (a2 : Int) := ⟨(layD ⟨s, a, L⟩ 3).nx.toNat, by have := hlok.2.1.1; omega⟩
          have hD2 : layD ⟨s, a, L⟩ 3 = ⟨s, a2, L2⟩ := by rw [← ha2, ← hL2]; rfl
          obtain ⟨m2, hm2⟩ : ∃ m2, L2.length = m2 := ⟨_, rfl⟩
          rw [hL2, ha2] at HLy
          rw [hD2] at hup hlok
          rw [ha2] at hnx
          have hm81 : m2 ≤ 81 := by rw [← hm2]; exact hlok.len81
          have HOk2 := Lib.hid hlok
          have HUp2 := Lib.hid (hup.symm.trans HUe2.out)
          have HLm2 := Lib.hid hm2
          have HNx := Lib.hid hnx
          clear hst hup hnx hlok hL2 ha2 hD2 hm2 HGo
          have m81 : (a : Int) < 81 := by omega
          go_wp2_with fail
          refine (HLi.out _ (by repeat (first | with_reducible exact HR.out | with_reducible apply Rd.drewN | with_reducible apply Rd.drew | with_reducible apply Rd.alloc))).mono ?_
          rintro e w4 ⟨u, rfl, hu, b⟩
          obtain ⟨pu, cu, rfl, -⟩ := hu.form
          rw [HZl.out]
          have Sw4 := Lib.hid b.size
          have HB := Lib.hid (chain0 (w := w) (by repeat (first | with_reducible exact Below.refl _ _ | with_reducible exact HB.out | with_reducible apply Below.drew | with_reducible apply bdN | with_reducible refine Below.alloc ?_ (by first | exact Nat.le_refl _ | with_reducible exact HB.out.size | omega | (simp; done) | (simp; omega) | (have := HB.out.size; simp at *; omega)) _ | with_reducible refine Below.setCell ?_ (by first | exact Nat.le_refl _ | with_reducible exact HB.out.size | omega | (simp; done) | (simp; omega) | (have := HB.out.size; simp at *; omega)) _)) b)
          have HZr := Lib.hid (SzA.below (by repeat (first | with_reducible exact HZr.out | with_reducible apply SzA.drewN | with_reducible apply SzA.drew | with_reducible apply SzA.alloc)) b)
          have HG := Lib.hid (OwnG.below (by repeat (first | with_reducible exact HG.out | with_reducible apply OwnG.drewN | with_reducible apply OwnG.drew | with_reducible apply OwnG.alloc)) b)
          have HR := Lib.hid (Rd.below (by repeat (first | with_reducible exact HR.out | with_reducible apply Rd.drewN | with_reducible apply Rd.drew | with_reducible apply Rd.alloc)) b)
          have K6 : Hid (GBox _ (g6) (⟨33, s, a, .slice p2 m c2, .slice (some ⟨gs, 0, none⟩) nw cs1, .slice (some ⟨gw, 0, none⟩) nw cw1⟩)) := Lib.hid (GBox.below (by repeat (first | with_reducible exact K6.out | with_reducible apply GBox.drewN | with_reducible apply GBox.drew | (with_reducible refine GBox.newAt ?_ ?_ <;> first | (simp; done) | rfl) | with_reducible apply GBox.alloc)) b)
          have K3 : Hid (CBox _ (w.heap.size + 1) (⟨61, cl⟩)) := Lib.hid (CBox.below (by repeat (first | with_reducible exact K3.out | with_reducible apply CBox.drewN | with_reducible apply CBox.drew | (with_reducible refine CBox.newAt ?_ ?_ <;> first | (simp; done) | rfl) | with_reducible apply CBox.alloc)) b)
          have K4 : Hid (GBox _ (w.heap.size + 1 + 1) (⟨33, 0, 0, .slice none 0 0, .slice none 0 0, .slice none 0 0⟩)) := Lib.hid (GBox.below (by repeat (first | with_reducible exact K4.out | with_reducible apply GBox.drewN | with_reducible apply GBox.drew | (with_reducible refine GBox.newAt ?_ ?_ <;> first | (simp; done) | rfl) | with_reducible apply GBox.alloc)) b)
          try clear k6a k6b k6c k6d k6e k6z
          have k6z := K6.out.lt
          obtain ⟨k6a, k6b, k6c, k6d, k6e⟩ := K6.out.cell
          try clear k6f
          have k6f := K6.out.frozen
          try clear k3a k3b k3c k3d k3z
          have k3z := K3.out.lt
          obtain ⟨k3a, k3b, k3c, k3d⟩ := K3.out.cell
          try clear k4a k4b k4c k4d k4e k4z
          have k4z := K4.out.lt
          obtain ⟨k4a, k4b, k4c, k4d, k4e⟩ := K4.out.cell
          clear b
          clear hu
          go_wp2_with fail
          refine (HLy.out _ (by repeat (first | with_reducible exact HR.out | with_reducible apply Rd.drewN | with_reducible apply Rd.drew | with_reducible apply Rd.alloc))).mono ?_
          rintro e w5 ⟨u, rfl, hu, b⟩
          obtain ⟨p3, c3, rfl, -⟩ := hu.form
          rw [HLm2.out] at hu ⊢
          have HGn := Lib.hid (OwnG.newL HG.out b hu (by have := HG.out.o2.span gs rfl; have := HG.out.c2 gs rfl; omega) HZr.out.h)
          have Sw5 := Lib.hid b.size
          have HB := Lib.hid (chain0 (w := w) (by repeat (first | with_reducible exact Below.refl _ _ | with_reducible exact HB.out | with_reducible apply Below.drew | with_reducible apply bdN | with_reducible refine Below.alloc ?_ (by first | exact Nat.le_refl _ | with_reducible exact HB.out.size | omega | (simp; done) | (simp; omega) | (have := HB.out.size; simp at *; omega)) _ | with_reducible refine Below.setCell ?_ (by first | exact Nat.le_refl _ | with_reducible exact HB.out.size | omega | (simp; done) | (simp; omega) | (have := HB.out.size; simp at *; omega)) _)) b)
          have HZr := Lib.hid (SzA.below (by repeat (first | with_reducible exact HZr.out | with_reducible apply SzA.drewN | with_reducible apply SzA.drew | with_reducible apply SzA.alloc)) b)
          have HG := Lib.hid (OwnG.below (by repeat (first | with_reducible exact HG.out | with_reducible apply OwnG.drewN | with_reducible apply OwnG.drew | with_reducible apply OwnG.alloc)) b)
          have HR := Lib.hid (Rd.below (by repeat (first | with_reducible exact HR.out | with_reducible apply Rd.drewN | with_reducible apply Rd.drew | with_reducible apply Rd.alloc)) b)
          have K6 : Hid (GBox _ (g6) (⟨33, s, a, .slice p2 m c2, .slice (some ⟨gs, 0, none⟩) nw cs1, .slice (some ⟨gw, 0, none⟩) nw cw1⟩)) := Lib.hid (GBox.below (by repeat (first | with_reducible exact K6.out | with_reducible apply GBox.drewN | with_reducible apply GBox.drew | (with_reducible refine GBox.newAt ?_ ?_ <;> first | (simp; done) | rfl) | with_reducible apply GBox.alloc)) b)
          have K3 : Hid (CBox _ (w.heap.size + 1) (⟨61, cl⟩)) := Lib.hid (CBox.below (by repeat (first | with_reducible exact K3.out | with_reducible apply CBox.drewN | with_reducible apply CBox.drew | (with_reducible refine CBox.newAt ?_ ?_ <;> first | (simp; done) | rfl) | with_reducible apply CBox.alloc)) b)
          have K4 : Hid (GBox _ (w.heap.size + 1 + 1) (⟨33, 0, 0, .slice none 0 0, .slice none 0 0, .slice none 0 0⟩)) := Lib.hid (GBox.below (by repeat (first | with_reducible exact K4.out | with_reducible apply GBox.drewN | with_reducible apply GBox.drew | (with_reducible refine GBox.newAt ?_ ?_ <;> first | (simp; done) | rfl) | with_reducible apply GBox.alloc)) b)
          try clear k6a k6b k6c k6d k6e k6z
          have k6z := K6.out.lt
          obtain ⟨k6a, k6b, k6c, k6d, k6e⟩ := K6.out.cell
          try clear k6f
          have k6f := K6.out.frozen
          try clear k3a k3b k3c k3d k3z
          have k3z := K3.out.lt
          obtain ⟨k3a, k3b, k3c, k3d⟩ := K3.out.cell
          try clear k4a k4b k4c k4d k4e k4z
          have k4z := K4.out.lt
          obtain ⟨k4a, k4b, k4c, k4d, k4e⟩ := K4.out.cell
          clear b
          clear hu HG
          have hds := deal_sets K6.out s a2 (.slice p3 m2 c3)
          have HG5 := Lib.hid ((HGn.out.off hds.2 (offG HGn.out K6.out rfl)).top hds.2.size)
          have K65 := Lib.hid hds.1
          have HB5 := Lib.hid (game.Below.by_ HB.out hds.2 HB.out.size (by have := HG6.out; omega))
          have K35 := Lib.hid (K3.out.grown hds.2 (by have := HG6.out; omega))
          have K45 := Lib.hid (K4.out.grown hds.2 (by have := HG6.out; omega))
          clear hds
          go_wp2_with fail
          go_roundg (81 - a2)
          case measure => have := HNx.out; omega
          case rel => exact ⟨a2, m2, L2, p3, c3, hm81, (by have := HNx.out; omega), Nat.le_refl _, HLm2.out, HUp2, HOk2, K65, HG5, HB5, K35, K45⟩
        · have HE := Lib.hid (HUe2.out.symm.trans (up_stop (fun h => by have h2 : (a : Int) < 81 := h.2; omega)))
          have m81 : ¬ (a : Int) < 81 := by omega
          clear hst
          go_wp2_with fail
          refine (HLi.out _ (by repeat (first | with_reducible exact HR.out | with_reducible apply Rd.drewN | with_reducible apply Rd.drew | with_reducible apply Rd.alloc))).mono ?_
          rintro e w4 ⟨u, rfl, hu, b⟩
          obtain ⟨pu, cu, rfl, -⟩ := hu.form
          rw [HZl.out]
          have Sw4 := Lib.hid b.size
          have HB := Lib.hid (chain0 (w := w) (by repeat (first | with_reducible exact Below.refl _ _ | with_reducible exact HB.out | with_reducible apply Below.drew | with_reducible apply bdN | with_reducible refine Below.alloc ?_ (by first | exact Nat.le_refl _ | with_reducible exact HB.out.size | omega | (simp; done) | (simp; omega) | (have := HB.out.size; simp at *; omega)) _ | with_reducible refine Below.setCell ?_ (by first | exact Nat.le_refl _ | with_reducible exact HB.out.size | omega | (simp; done) | (simp; omega) | (have := HB.out.size; simp at *; omega)) _)) b)
          have HZr := Lib.hid (SzA.below (by repeat (first | with_reducible exact HZr.out | with_reducible apply SzA.drewN | with_reducible apply SzA.drew | with_reducible apply SzA.alloc)) b)
          have HG := Lib.hid (OwnG.below (by repeat (first | with_reducible exact HG.out | with_reducible apply OwnG.drewN | with_reducible apply OwnG.drew | with_reducible apply OwnG.alloc)) b)
          have HR := Lib.hid (Rd.below (by repeat (first | with_reducible exact HR.out | with_reducible apply Rd.drewN | with_reducible apply Rd.drew | with_reducible apply Rd.alloc)) b)
          have K6 : Hid (GBox _ (g6) (⟨33, s, a, .slice p2 m c2, .slice (some ⟨gs, 0, none⟩) nw cs1, .slice (some ⟨gw, 0, none⟩) nw cw1⟩)) := Lib.hid (GBox.below (by repeat (first | with_reducible exact K6.out | with_reducible apply GBox.drewN | with_reducible apply GBox.drew | (with_reducible refine GBox.newAt ?_ ?_ <;> first | (simp; done) | rfl) | with_reducible apply GBox.alloc)) b)
          have K3 : Hid (CBox _ (w.heap.size + 1) (⟨61, cl⟩)) := Lib.hid (CBox.below (by repeat (first | with_reducible exact K3.out | with_reducible apply CBox.drewN | with_reducible apply CBox.drew | (with_reducible refine CBox.newAt ?_ ?_ <;> first | (simp; done) | rfl) | with_reducible apply CBox.alloc)) b)
          have K4 : Hid (GBox _ (w.heap.size + 1 + 1) (⟨33, 0, 0, .slice none 0 0, .slice none 0 0, .slice none 0 0⟩)) := Lib.hid (GBox.below (by repeat (first | with_reducible exact K4.out | with_reducible apply GBox.drewN | with_reducible apply GBox.drew | (with_reducible refine GBox.newAt ?_ ?_ <;> first | (simp; done) | rfl) | with_reducible apply GBox.alloc)) b)
          try clear k6a k6b k6c k6d k6e k6z
          have k6z := K6.out.lt
          obtain ⟨k6a, k6b, k6c, k6d, k6e⟩ := K6.out.cell
          try clear k6f
          have k6f := K6.out.frozen
          try clear k3a k3b k3c k3d k3z
          have k3z := K3.out.lt
          obtain ⟨k3a, k3b, k3c, k3d⟩ := K3.out.cell
          try clear k4a k4b k4c k4d k4e k4z
          have k4z := K4.out.lt
          obtain ⟨k4a, k4b, k4c, k4d, k4e⟩ := K4.out.cell
          clear b
          clear hu
          go_wp2_with fail
          go_meet
          case rel => exact ⟨a, m, L, p2, c2, hm, ha, HLm.out, HE, K6, HG.out.top HZr.out.h, HB, K3, K4⟩
      · have HE := Lib.hid (HUe2.out.symm.trans (up_stop (fun h => by have h1 := h.1; rw [hst] at h1; exact hz0 (of_decide_eq_true h1))))
        have hmz : ((z : Int) == 0) = false := by simp; omega
        have hmp : (0 : Int) < (z : Int) := by omega
        clear hst
        go_wp2_with fail
        refine (HLi.out _ (by repeat (first | with_reducible exact HR.out | with_reducible apply Rd.drewN | with_reducible apply Rd.drew | with_reducible apply Rd.alloc))).mono ?_
        rintro e w4 ⟨u, rfl, hu, b⟩
        obtain ⟨pu, cu, rfl, -⟩ := hu.form
        rw [HZl.out]
        have Sw4 := Lib.hid b.size
        have HB := Lib.hid (chain0 (w := w) (by repeat (first | with_reducible exact Below.refl _ _ | with_reducible exact HB.out | with_reducible apply Below.drew | with_reducible apply bdN | with_reducible refine Below.alloc ?_ (by first | exact Nat.le_refl _ | with_reducible exact HB.out.size | omega | (simp; done) | (simp; omega) | (have := HB.out.size; simp at *; omega)) _ | with_reducible refine Below.setCell ?_ (by first | exact Nat.le_refl _ | with_reducible exact HB.out.size | omega | (simp; done) | (simp; omega) | (have := HB.out.size; simp at *; omega)) _)) b)
        have HZr := Lib.hid (SzA.below (by repeat (first | with_reducible exact HZr.out | with_reducible apply SzA.drewN | with_reducible apply SzA.drew | with_reducible apply SzA.alloc)) b)
        have HG := Lib.hid (OwnG.below (by repeat (first | with_reducible exact HG.out | with_reducible apply OwnG.drewN | with_reducible apply OwnG.drew | with_reducible apply OwnG.alloc)) b)
        have HR := Lib.hid (Rd.below (by repeat (first | with_reducible exact HR.out | with_reducible apply Rd.drewN | with_reducible apply Rd.drew | with_reducible apply Rd.alloc)) b)
        have K6 : Hid (GBox _ (g6) (⟨33, s, a, .slice p2 m c2, .slice (some ⟨gs, 0, none⟩) nw cs1, .slice (some ⟨gw, 0, none⟩) nw cw1⟩)) := Lib.hid (GBox.below (by repeat (first | with_reducible exact K6.out | with_reducible apply GBox.drewN | with_reducible apply GBox.drew | (with_reducible refine GBox.newAt ?_ ?_ <;> first | (simp; done) | rfl) | with_reducible apply GBox.alloc)) b)
        have K3 : Hid (CBox _ (w.heap.size + 1) (⟨61, cl⟩)) := Lib.hid (CBox.below (by repeat (first | with_reducible exact K3.out | with_reducible apply CBox.drewN | with_reducible apply CBox.drew | (with_reducible refine CBox.newAt ?_ ?_ <;> first | (simp; done) | rfl) | with_reducible apply CBox.alloc)) b)
        have K4 : Hid (GBox _ (w.heap.size + 1 + 1) (⟨33, 0, 0, .slice none 0 0, .slice none 0 0, .slice none 0 0⟩)) := Lib.hid (GBox.below (by repeat (first | with_reducible exact K4.out | with_reducible apply GBox.drewN | with_reducible apply GBox.drew | (with_reducible refine GBox.newAt ?_ ?_ <;> first | (simp; done) | rfl) | with_reducible apply GBox.alloc)) b)
        try clear k6a k6b k6c k6d k6e k6z
        have k6z := K6.out.lt
        obtain ⟨k6a, k6b, k6c, k6d, k6e⟩ := K6.out.cell
        try clear k6f
        have k6f := K6.out.frozen
        try clear k3a k3b k3c k3d k3z
        have k3z := K3.out.lt
        obtain ⟨k3a, k3b, k3c, k3d⟩ := K3.out.cell
        try clear k4a k4b k4c k4d k4e k4z
        have k4z := K4.out.lt
        obtain ⟨k4a, k4b, k4c, k4d, k4e⟩ := K4.out.cell
        clear b
        clear hu
        go_wp2_with fail
        go_meet
        case rel => exact ⟨a, m, L, p2, c2, hm, ha, HLm.out, HE, K6, HG.out.top HZr.out.h, HB, K3, K4⟩
  case rest =>
    clear K6 HB2 K32 K42 HG3 HC6
    obtain ⟨a, m, L, p2, c2, hm, ha, hLm, HUe2, K6, HG, HB, K3, K4⟩ := hcut
    obtain ⟨k6a, k6b, k6c, k6d, k6e⟩ := K6.out.cell
    have k6z := K6.out.lt
    have k6f := K6.out.frozen
    obtain ⟨k3a, k3b, k3c, k3d⟩ := K3.out.cell
    have k3z := K3.out.lt
    obtain ⟨k4a, k4b, k4c, k4d, k4e⟩ := K4.out.cell
    have k4z := K4.out.lt
    have k4f := K4.out.frozen
    have HLm := Lib.hid hLm
    have HOk : Hid ((Dl.mk s a L).okP) := Lib.hid (HUe2.out ▸ HU.out)
    have HR := Lib.hid (Own.rd HG.out.o1)
    have HZr : Hid (SzA wc wc.heap.size) := Lib.hid ⟨Nat.le_refl _⟩
    have hU2 := HUe2.out
    rw [hU2] at HK HMD
    have HKk := Lib.hid (fun w h => l8_kind s a L cl p2 (some ⟨gs, 0, none⟩) (some ⟨gw, 0, none⟩) m c2 nw cs1 nw cw1 w hLm hm (by omega) h HOk.out.cards HOk.out.2.2.2 hc)
    have HTk := Lib.hid (fun w h => l4_take s a L (plc cl) p2 m c2 w HOk.out.1 ha hLm hm h)
    have HKd : Hid (kd = kind L nw cl) := Lib.hid HK.out
    rw [← HKd.out] at HKk
    have hk3 := kind_bd L nw cl
    rw [← HKd.out] at hk3
    clear hU2 HUe2 HU HUs HK hLm HR0 HCp HUe
    rcases hk3 with rfl | rfl | rfl
    · have hq := kind_p (l := L) (n := nw) (c := cl) (by rw [← HKd.out]; decide)
      obtain ⟨q, hqe⟩ : ∃ q : Nat, cl.a = (q : Int) := ⟨cl.a.toNat, by omega⟩
      have hqn : q < nw := by omega
      have hlok := take_ok' (t := plc cl) HOk.out
      obtain ⟨L2, hL2⟩ : ∃ L2, (takeD ⟨s, a, L⟩ (plc cl)).l = L2 := ⟨_, rfl⟩
      obtain ⟨a2, ha2⟩ : ∃ a2 : Nat, (takeD ⟨s, a, L⟩ (plc cl)).nx = (a2 : Int) := ⟨(takeD ⟨s, a, L⟩ (plc cl)).nx.toNat, by have := hlok.2.1.1; omega⟩
      have hD2 : takeD ⟨s, a, L⟩ (plc cl) = ⟨s, a2, L2⟩ := by rw [← ha2, ← hL2]; rfl
      obtain ⟨m2, hm2⟩ : ∃ m2, L2.length = m2 := ⟨_, rfl⟩
      rw [hL2, ha2] at HTk
      have HLm2 := Lib.hid hm2
      have HGx : Hid (G = ⟨s, a2, L2, bump sc q, wt⟩) := Lib.hid (by have h1 := HMD.out; have h2 := HMS.out; have h3 := HMW.out; rw [if_neg (by decide)] at h3; rw [if_pos rfl, hqe] at h2; rw [if_pos rfl, hD2] at h1; rw [HMk.out, h1, h2, h3]; rfl)
      have HQe := Lib.hid hqe
      clear HMD HMS HMW HMk HKd hq hqe hD2 hm2 hL2 ha2 hlok
      go_wp2_with fail
      refine ((HKk.out _ (by repeat (first | with_reducible exact HR.out | with_reducible apply Rd.drewN | with_reducible apply Rd.drew | with_reducible apply Rd.alloc)))).mono ?_
      rintro e w3 ⟨rfl, b⟩
      have Sw3 := Lib.hid b.size
      have HB := Lib.hid (chain0 (w := w) (by repeat (first | with_reducible exact Below.refl _ _ | with_reducible exact HB.out | with_reducible apply Below.drew | with_reducible apply bdN | with_reducible refine Below.alloc ?_ (by first | exact Nat.le_refl _ | with_reducible exact HB.out.size | omega | (simp; done) | (simp; omega) | (have := HB.out.size; simp at *; omega)) _ | with_reducible refine Below.setCell ?_ (by first | exact Nat.le_refl _ | with_reducible exact HB.out.size | omega | (simp; done) | (simp; omega) | (have := HB.out.size; simp at *; omega)) _)) b)
      have HZr := Lib.hid (SzA.below (by repeat (first | with_reducible exact HZr.out | with_reducible apply SzA.drewN | with_reducible apply SzA.drew | with_reducible apply SzA.alloc)) b)
      have HG := Lib.hid (OwnG.below (by repeat (first | with_reducible exact HG.out | with_reducible apply OwnG.drewN | with_reducible apply OwnG.drew | with_reducible apply OwnG.alloc)) b)
      have HR := Lib.hid (Rd.below (by repeat (first | with_reducible exact HR.out | with_reducible apply Rd.drewN | with_reducible apply Rd.drew | with_reducible apply Rd.alloc)) b)
      have K6 : Hid (GBox _ (g6) (⟨33, s, a, .slice p2 m c2, .slice (some ⟨gs, 0, none⟩) nw cs1, .slice (some ⟨gw, 0, none⟩) nw cw1⟩)) := Lib.hid (GBox.below (by repeat (first | with_reducible exact K6.out | with_reducible apply GBox.drewN | with_reducible apply GBox.drew | (with_reducible refine GBox.newAt ?_ ?_ <;> first | (simp; done) | rfl) | with_reducible apply GBox.alloc)) b)
      have K3 : Hid (CBox _ (w.heap.size + 1) (⟨61, cl⟩)) := Lib.hid (CBox.below (by repeat (first | with_reducible exact K3.out | with_reducible apply CBox.drewN | with_reducible apply CBox.drew | (with_reducible refine CBox.newAt ?_ ?_ <;> first | (simp; done) | rfl) | with_reducible apply CBox.alloc)) b)
      have K4 : Hid (GBox _ (w.heap.size + 1 + 1) (⟨33, 0, 0, .slice none 0 0, .slice none 0 0, .slice none 0 0⟩)) := Lib.hid (GBox.below (by repeat (first | with_reducible exact K4.out | with_reducible apply GBox.drewN | with_reducible apply GBox.drew | (with_reducible refine GBox.newAt ?_ ?_ <;> first | (simp; done) | rfl) | with_reducible apply GBox.alloc)) b)
      try clear k6a k6b k6c k6d k6e k6z
      have k6z := K6.out.lt
      obtain ⟨k6a, k6b, k6c, k6d, k6e⟩ := K6.out.cell
      try clear k6f
      have k6f := K6.out.frozen
      try clear k3a k3b k3c k3d k3z
      have k3z := K3.out.lt
      obtain ⟨k3a, k3b, k3c, k3d⟩ := K3.out.cell
      try clear k4a k4b k4c k4d k4e k4z
      have k4z := K4.out.lt
      obtain ⟨k4a, k4b, k4c, k4d, k4e⟩ := K4.out.cell
      try clear k4f
      have k4f := K4.out.frozen
      clear b
      go_wp2_with fail
      refine (HTk.out _ (by repeat (first | with_reducible exact HR.out | with_reducible apply Rd.drewN | with_reducible apply Rd.drew | with_reducible apply Rd.alloc))).mono ?_
      rintro e w5 ⟨u, rfl, hu, b⟩
      obtain ⟨p3, c3, rfl, -⟩ := hu.form
      rw [HLm2.out] at hu ⊢
      have HGn := Lib.hid (OwnG.newL HG.out b hu (by have := HG.out.o2.span gs rfl; have := HG.out.c2 gs rfl; omega) HZr.out.h)
      have Sw5 := Lib.hid b.size
      have HB := Lib.hid (chain0 (w := w) (by repeat (first | with_reducible exact Below.refl _ _ | with_reducible exact HB.out | with_reducible apply Below.drew | with_reducible apply bdN | with_reducible refine Below.alloc ?_ (by first | exact Nat.le_refl _ | with_reducible exact HB.out.size | omega | (simp; done) | (simp; omega) | (have := HB.out.size; simp at *; omega)) _ | with_reducible refine Below.setCell ?_ (by first | exact Nat.le_refl _ | with_reducible exact HB.out.size | omega | (simp; done) | (simp; omega) | (have := HB.out.size; simp at *; omega)) _)) b)
      have HZr := Lib.hid (SzA.below (by repeat (first | with_reducible exact HZr.out | with_reducible apply SzA.drewN | with_reducible apply SzA.drew | with_reducible apply SzA.alloc)) b)
      have HG := Lib.hid (OwnG.below (by repeat (first | with_reducible exact HG.out | with_reducible apply OwnG.drewN | with_reducible apply OwnG.drew | with_reducible apply OwnG.alloc)) b)
      have HR := Lib.hid (Rd.below (by repeat (first | with_reducible exact HR.out | with_reducible apply Rd.drewN | with_reducible apply Rd.drew | with_reducible apply Rd.alloc)) b)
      have K6 : Hid (GBox _ (g6) (⟨33, s, a, .slice p2 m c2, .slice (some ⟨gs, 0, none⟩) nw cs1, .slice (some ⟨gw, 0, none⟩) nw cw1⟩)) := Lib.hid (GBox.below (by repeat (first | with_reducible exact K6.out | with_reducible apply GBox.drewN | with_reducible apply GBox.drew | (with_reducible refine GBox.newAt ?_ ?_ <;> first | (simp; done) | rfl) | with_reducible apply GBox.alloc)) b)
      have K3 : Hid (CBox _ (w.heap.size + 1) (⟨61, cl⟩)) := Lib.hid (CBox.below (by repeat (first | with_reducible exact K3.out | with_reducible apply CBox.drewN | with_reducible apply CBox.drew | (with_reducible refine CBox.newAt ?_ ?_ <;> first | (simp; done) | rfl) | with_reducible apply CBox.alloc)) b)
      have K4 : Hid (GBox _ (w.heap.size + 1 + 1) (⟨33, 0, 0, .slice none 0 0, .slice none 0 0, .slice none 0 0⟩)) := Lib.hid (GBox.below (by repeat (first | with_reducible exact K4.out | with_reducible apply GBox.drewN | with_reducible apply GBox.drew | (with_reducible refine GBox.newAt ?_ ?_ <;> first | (simp; done) | rfl) | with_reducible apply GBox.alloc)) b)
      try clear k6a k6b k6c k6d k6e k6z
      have k6z := K6.out.lt
      obtain ⟨k6a, k6b, k6c, k6d, k6e⟩ := K6.out.cell
      try clear k6f
      have k6f := K6.out.frozen
      try clear k3a k3b k3c k3d k3z
      have k3z := K3.out.lt
      obtain ⟨k3a, k3b, k3c, k3d⟩ := K3.out.cell
      try clear k4a k4b k4c k4d k4e k4z
      have k4z := K4.out.lt
      obtain ⟨k4a, k4b, k4c, k4d, k4e⟩ := K4.out.cell
      try clear k4f
      have k4f := K4.out.frozen
      clear b
      clear hu HG
      have hds := deal_sets K6.out s a2 (.slice p3 m2 c3)
      have HG5 := Lib.hid ((HGn.out.off hds.2 (offG HGn.out K6.out rfl)).top hds.2.size)
      have K65 := Lib.hid hds.1
      have HB5 := Lib.hid (game.Below.by_ HB.out hds.2 HB.out.size (by have := HG6.out; omega))
      have K35 := Lib.hid (K3.out.grown hds.2 (by have := HG6.out; omega))
      have K45 := Lib.hid (K4.out.grown hds.2 (by have := HG6.out; omega))
      clear hds HZr HGn
      go_upto_region 8 with fail
      generalize (((w5.setCell ⟨g6, 0, none⟩ (.int .i64 s)).setCell ⟨g6, 1, none⟩ (.int .i64 (a2 : Int))).setCell ⟨g6, 2, none⟩ (.slice p3 m2 c3)) = W3 at K65 HG5 HB5 K35 K45 ⊢
      clear K6 K3 K4 HB k6a k6b k6c k6d k6e k6z k4a k4b k4c k4d k4e k4z k4f k6f k3a k3b k3c k3d k3z HR
      have K6 := Lib.hid K65.out
      have K3 := Lib.hid K35.out
      have K4 := Lib.hid K45.out
      have HG := Lib.hid HG5.out
      have HB := Lib.hid HB5.out
      have HZr : Hid (SzA W3 W3.heap.size) := Lib.hid ⟨Nat.le_refl _⟩
      clear K65 K35 K45 HG5 HB5
      obtain ⟨x, hx, d0, df, _, dlt⟩ := OwnI.slot HS.out HG.out.o2 q hqn
      have hxb := tly_at HO.out.ts hx
      have HX := Lib.hid hx
      clear hx
      refine region_seq [0, 1, 2, 3, 4, 5, 6, 7, 8] [9, 10, 11, 12, 13] (by kernel_rfl) (by kernel_rfl) rfl (by kernel_rfl) (fun w' => w'.cell? ⟨g6, 3, none⟩ = some (.slice (some ⟨gs, 0, none⟩) nw cs1) ∧ w'.cell? ⟨w.heap.size + 1, 0, none⟩ = some (.int .i64 (q : Int))) (fun w' h => ⟨(K6.out.below h).cell.2.2.2.1, by have h1 := (K3.out.below h).cell.1; rwa [show (Cv.mk 61 cl).c.a = (q : Int) from HQe.out] at h1⟩) ?_
      refine j_pure 38 (v := .pointer (some ⟨g6, 3, none⟩)) rfl rfl rfl (fun w => by kernel_rfl) ?_
      refine j_cell 39 (v := .slice (some ⟨gs, 0, none⟩) nw cs1) rfl rfl rfl rfl (by kernel_rfl) (fun w' h => load_slI h.1) ?_
      refine j_pure 40 (v := .pointer (some ⟨w.heap.size + 1, 0, none⟩)) rfl rfl rfl (fun w => by kernel_rfl) ?_
      refine j_cell 41 (v := .int .i64 q) rfl rfl rfl rfl (by kernel_rfl) (fun w' h => load_int h.2) ?_
      refine j_pure 42 (v := .pointer (some ⟨g6, 3, none⟩)) rfl rfl rfl (fun w => by kernel_rfl) ?_
      refine j_cell 43 (v := .slice (some ⟨gs, 0, none⟩) nw cs1) rfl rfl rfl rfl (by kernel_rfl) (fun w' h => load_slI h.1) ?_
      refine j_pure 44 (v := .pointer (some ⟨w.heap.size + 1, 0, none⟩)) rfl rfl rfl (fun w => by kernel_rfl) ?_
      refine j_cell 45 (v := .int .i64 q) rfl rfl rfl rfl (by kernel_rfl) (fun w' h => load_int h.2) ?_
      refine j_pure 46 (v := .pointer (some ⟨gs, q, none⟩)) rfl rfl rfl (exec_index0 (n := nw) (cp := cs1) hqn rfl (by kernel_rfl) (by kernel_rfl)) ?_
      intro wa hI
      have d1 := (Below.cell hI (p := ⟨gs, q, none⟩) dlt).trans d0
      have hS : ∀ w', BI W3 w' → w'.cell? ⟨g6, 3, none⟩ = some (.slice (some ⟨gs, 0, none⟩) nw cs1) ∧ w'.cell? ⟨w.heap.size + 1, 0, none⟩ = some (.int .i64 (q : Int)) := (fun w' h => ⟨(K6.out.below h).cell.2.2.2.1, by have h1 := (K3.out.below h).cell.1; rwa [show (Cv.mk 61 cl).c.a = (q : Int) from HQe.out] at h1⟩)
      refine u_val (v := .int .i64 x) rfl rfl (exec_loadI rfl (by kernel_rfl) d1) (hS _ hI) ?_
      refine u_val (v := .int .i64 (x + 1)) rfl rfl (exec_addI (x := x) (y := 1) (by omega) (by omega) rfl (by kernel_rfl) (by kernel_rfl) wa) (hS _ hI) ?_
      refine u_call (f := 56) (args := #[.int .i64 (x + 1), .int .i64 60]) rfl rfl (by kernel_rfl) ((l1_least (x + 1) 60 wa).mono ?_)
      rintro e wb ⟨rfl, b⟩
      have hI2 := BI.next hI b
      refine ⟨.int .i64 (more x), rfl, hS _ hI2, ?_⟩
      refine u_val (v := .pointer (some ⟨gs, q, none⟩)) rfl rfl (exec_index0 (n := nw) (cp := cs1) hqn rfl (by kernel_rfl) (by kernel_rfl) wb) (hS _ hI2) ?_
      have d2 := (Below.cell hI2 (p := ⟨gs, q, none⟩) dlt).trans d0
      have ho6 := offG HG.out K6.out rfl
      have ho4 := offG HG.out K4.out rfl
      have gbc := gb_cell wb gs q (.int .i64 (more x))
      have K6a := GBox.grown (K6.out.below hI2) gbc (fun e => ho6.2.1 gs rfl e.symm)
      have K4a := GBox.grown (K4.out.below hI2) gbc (fun e => ho4.2.1 gs rfl e.symm)
      have K3a := CBox.grown (K3.out.below hI2) gbc (fun e => (offC HG.out K3.out).2.1 gs rfl e.symm)
      have HGa := bump_sets (HG.out.below hI2) HS.out q x HX.out
      have HBa := game.Below.by_ (HB.out.trans (Below.mono hI2 HB.out.size)) gbc (Nat.le_trans HB.out.size (Below.size hI2)) (by have := (HG.out.o2.span gs rfl).1; omega)
      have HZa := Nat.le_trans HZr.out.h (Nat.le_trans (Below.size hI2) gbc.size)
      refine u_skip rfl rfl (exec_storeI (x := x) rfl (by kernel_rfl) (by kernel_rfl) d2 ((OwnI.slot HS.out (HG.out.below hI2).o2 q hqn).choose_spec.2.2.1 q)) ⟨K6a.cell.2.2.2.1, by have h1 := K3a.cell.1; rwa [show (Cv.mk 61 cl).c.a = (q : Int) from HQe.out] at h1⟩ ?_
      clear K6 K4 HG HB HZr hS K3a hI hI2 b d1 d2 d0 df ho6 ho4 gbc
      simp only [runsU, Act.put, List.setIfInBounds_toArray, List.set_cons_zero, List.set_cons_succ]
      have K6 := Lib.hid K6a
      have K4 := Lib.hid K4a
      have HG := Lib.hid HGa
      have HB := Lib.hid HBa
      have HZr : Hid (SzA _ _) := Lib.hid ⟨HZa⟩
      clear K6a K4a HGa HBa HZa
      generalize (wb.setCell ⟨gs, q, none⟩ (.int .i64 (more x))) = W6 at K6 K4 HG HB HZr ⊢
      obtain ⟨k6a, k6b, k6c, k6d, k6e⟩ := K6.out.cell
      have k6z := K6.out.lt
      obtain ⟨k4a, k4b, k4c, k4d, k4e⟩ := K4.out.cell
      have k4z := K4.out.lt
      have k4f := K4.out.frozen
      go_wp2_with fail
      try simp only [Exit.inBlock, Exit.then]
      refine bodyPost_ret (res_game2 Try.results29 rfl (K4.out.set_ _ _ _ _ _)) rfl ?_
      have HGf := (((((HG.out.far (g := w.heap.size + 1 + 1) (.inl (by omega)) 0 (.int .i64 s)).far (g := w.heap.size + 1 + 1) (.inl (by omega)) 1 (.int .i64 a2)).far (g := w.heap.size + 1 + 1) (.inl (by omega)) 2 (.slice p3 m2 c3)).far (g := w.heap.size + 1 + 1) (.inl (by omega)) 3 (.slice (some ⟨gs, 0, none⟩) nw cs1)).far (g := w.heap.size + 1 + 1) (.inl (by omega)) 4 (.slice (some ⟨gw, 0, none⟩) nw cw1))
      refine ⟨_, _, _, by rw [HGx.out]; rfl, ?_, by repeat (first | with_reducible exact Below.refl _ _ | with_reducible exact HB.out | with_reducible apply Below.drew | with_reducible apply bdN | with_reducible refine Below.alloc ?_ (by first | exact Nat.le_refl _ | with_reducible exact HB.out.size | omega | (simp; done) | (simp; omega) | (have := HB.out.size; simp at *; omega)) _ | with_reducible refine Below.setCell ?_ (by first | exact Nat.le_refl _ | with_reducible exact HB.out.size | omega | (simp; done) | (simp; omega) | (have := HB.out.size; simp at *; omega)) _)⟩
      rw [HGx.out]
      exact (HGf.base (show w.heap.size ≤ w.heap.size + 1 + 1 + 1 by omega)).top (by have := HZr.out.h; simpa [World.setCell] using this)
    · have hq := kind_p (l := L) (n := nw) (c := cl) (by rw [← HKd.out]; decide)
      obtain ⟨q, hqe⟩ : ∃ q : Nat, cl.a = (q : Int) := ⟨cl.a.toNat, by omega⟩
      have hqn : q < nw := by omega
      have HGx : Hid (G = ⟨s, a, L, sc, bump wt q⟩) := Lib.hid (by have h1 := HMD.out; have h2 := HMS.out; have h3 := HMW.out; rw [if_neg (by decide)] at h1 h2; rw [if_pos rfl, hqe] at h3; rw [HMk.out, h1, h2, h3]; rfl)
      have HQe := Lib.hid hqe
      clear HTk HMD HMS HMW HMk HKd hq hqe
      go_wp2_with fail
      refine ((HKk.out _ (by repeat (first | with_reducible exact HR.out | with_reducible apply Rd.drewN | with_reducible apply Rd.drew | with_reducible apply Rd.alloc)))).mono ?_
      rintro e w3 ⟨rfl, b⟩
      have Sw3 := Lib.hid b.size
      have HB := Lib.hid (chain0 (w := w) (by repeat (first | with_reducible exact Below.refl _ _ | with_reducible exact HB.out | with_reducible apply Below.drew | with_reducible apply bdN | with_reducible refine Below.alloc ?_ (by first | exact Nat.le_refl _ | with_reducible exact HB.out.size | omega | (simp; done) | (simp; omega) | (have := HB.out.size; simp at *; omega)) _ | with_reducible refine Below.setCell ?_ (by first | exact Nat.le_refl _ | with_reducible exact HB.out.size | omega | (simp; done) | (simp; omega) | (have := HB.out.size; simp at *; omega)) _)) b)
      have HZr := Lib.hid (SzA.below (by repeat (first | with_reducible exact HZr.out | with_reducible apply SzA.drewN | with_reducible apply SzA.drew | with_reducible apply SzA.alloc)) b)
      have HG := Lib.hid (OwnG.below (by repeat (first | with_reducible exact HG.out | with_reducible apply OwnG.drewN | with_reducible apply OwnG.drew | with_reducible apply OwnG.alloc)) b)
      have HR := Lib.hid (Rd.below (by repeat (first | with_reducible exact HR.out | with_reducible apply Rd.drewN | with_reducible apply Rd.drew | with_reducible apply Rd.alloc)) b)
      have K6 : Hid (GBox _ (g6) (⟨33, s, a, .slice p2 m c2, .slice (some ⟨gs, 0, none⟩) nw cs1, .slice (some ⟨gw, 0, none⟩) nw cw1⟩)) := Lib.hid (GBox.below (by repeat (first | with_reducible exact K6.out | with_reducible apply GBox.drewN | with_reducible apply GBox.drew | (with_reducible refine GBox.newAt ?_ ?_ <;> first | (simp; done) | rfl) | with_reducible apply GBox.alloc)) b)
      have K3 : Hid (CBox _ (w.heap.size + 1) (⟨61, cl⟩)) := Lib.hid (CBox.below (by repeat (first | with_reducible exact K3.out | with_reducible apply CBox.drewN | with_reducible apply CBox.drew | (with_reducible refine CBox.newAt ?_ ?_ <;> first | (simp; done) | rfl) | with_reducible apply CBox.alloc)) b)
      have K4 : Hid (GBox _ (w.heap.size + 1 + 1) (⟨33, 0, 0, .slice none 0 0, .slice none 0 0, .slice none 0 0⟩)) := Lib.hid (GBox.below (by repeat (first | with_reducible exact K4.out | with_reducible apply GBox.drewN | with_reducible apply GBox.drew | (with_reducible refine GBox.newAt ?_ ?_ <;> first | (simp; done) | rfl) | with_reducible apply GBox.alloc)) b)
      try clear k6a k6b k6c k6d k6e k6z
      have k6z := K6.out.lt
      obtain ⟨k6a, k6b, k6c, k6d, k6e⟩ := K6.out.cell
      try clear k6f
      have k6f := K6.out.frozen
      try clear k3a k3b k3c k3d k3z
      have k3z := K3.out.lt
      obtain ⟨k3a, k3b, k3c, k3d⟩ := K3.out.cell
      try clear k4a k4b k4c k4d k4e k4z
      have k4z := K4.out.lt
      obtain ⟨k4a, k4b, k4c, k4d, k4e⟩ := K4.out.cell
      try clear k4f
      have k4f := K4.out.frozen
      clear b
      go_upto_region 10 with fail
      obtain ⟨W3, hW3⟩ : ∃ W3, W3 = w3 := ⟨_, rfl⟩
      rw [← hW3] at K6 K3 K4 HG HB HZr
      rw [← hW3]
      clear hW3 k6a k6b k6c k6d k6e k6z k4a k4b k4c k4d k4e k4z k4f k6f k3a k3b k3c k3d k3z HR
      obtain ⟨x, hx, d0, df, _, dlt⟩ := OwnI.slot HW.out HG.out.o3 q hqn
      have hxb := tly_at HO.out.tw hx
      have HX := Lib.hid hx
      clear hx
      refine region_seq [0, 1, 2, 3, 4, 5, 6, 7, 8] [9, 10, 11, 12, 13] (by kernel_rfl) (by kernel_rfl) rfl (by kernel_rfl) (fun w' => w'.cell? ⟨g6, 4, none⟩ = some (.slice (some ⟨gw, 0, none⟩) nw cw1) ∧ w'.cell? ⟨w.heap.size + 1, 0, none⟩ = some (.int .i64 (q : Int))) (fun w' h => ⟨(K6.out.below h).cell.2.2.2.2, by have h1 := (K3.out.below h).cell.1; rwa [show (Cv.mk 61 cl).c.a = (q : Int) from HQe.out] at h1⟩) ?_
      refine j_pure 53 (v := .pointer (some ⟨g6, 4, none⟩)) rfl rfl rfl (fun w => by kernel_rfl) ?_
      refine j_cell 54 (v := .slice (some ⟨gw, 0, none⟩) nw cw1) rfl rfl rfl rfl (by kernel_rfl) (fun w' h => load_slI h.1) ?_
      refine j_pure 55 (v := .pointer (some ⟨w.heap.size + 1, 0, none⟩)) rfl rfl rfl (fun w => by kernel_rfl) ?_
      refine j_cell 56 (v := .int .i64 q) rfl rfl rfl rfl (by kernel_rfl) (fun w' h => load_int h.2) ?_
      refine j_pure 57 (v := .pointer (some ⟨g6, 4, none⟩)) rfl rfl rfl (fun w => by kernel_rfl) ?_
      refine j_cell 58 (v := .slice (some ⟨gw, 0, none⟩) nw cw1) rfl rfl rfl rfl (by kernel_rfl) (fun w' h => load_slI h.1) ?_
      refine j_pure 59 (v := .pointer (some ⟨w.heap.size + 1, 0, none⟩)) rfl rfl rfl (fun w => by kernel_rfl) ?_
      refine j_cell 60 (v := .int .i64 q) rfl rfl rfl rfl (by kernel_rfl) (fun w' h => load_int h.2) ?_
      refine j_pure 61 (v := .pointer (some ⟨gw, q, none⟩)) rfl rfl rfl (exec_index0 (n := nw) (cp := cw1) hqn rfl (by kernel_rfl) (by kernel_rfl)) ?_
      intro wa hI
      have d1 := (Below.cell hI (p := ⟨gw, q, none⟩) dlt).trans d0
      have hS : ∀ w', BI W3 w' → w'.cell? ⟨g6, 4, none⟩ = some (.slice (some ⟨gw, 0, none⟩) nw cw1) ∧ w'.cell? ⟨w.heap.size + 1, 0, none⟩ = some (.int .i64 (q : Int)) := (fun w' h => ⟨(K6.out.below h).cell.2.2.2.2, by have h1 := (K3.out.below h).cell.1; rwa [show (Cv.mk 61 cl).c.a = (q : Int) from HQe.out] at h1⟩)
      refine u_val (v := .int .i64 x) rfl rfl (exec_loadI rfl (by kernel_rfl) d1) (hS _ hI) ?_
      refine u_val (v := .int .i64 (x + 1)) rfl rfl (exec_addI (x := x) (y := 1) (by omega) (by omega) rfl (by kernel_rfl) (by kernel_rfl) wa) (hS _ hI) ?_
      refine u_call (f := 56) (args := #[.int .i64 (x + 1), .int .i64 60]) rfl rfl (by kernel_rfl) ((l1_least (x + 1) 60 wa).mono ?_)
      rintro e wb ⟨rfl, b⟩
      have hI2 := BI.next hI b
      refine ⟨.int .i64 (more x), rfl, hS _ hI2, ?_⟩
      refine u_val (v := .pointer (some ⟨gw, q, none⟩)) rfl rfl (exec_index0 (n := nw) (cp := cw1) hqn rfl (by kernel_rfl) (by kernel_rfl) wb) (hS _ hI2) ?_
      have d2 := (Below.cell hI2 (p := ⟨gw, q, none⟩) dlt).trans d0
      have ho6 := offG HG.out K6.out rfl
      have ho4 := offG HG.out K4.out rfl
      have gbc := gb_cell wb gw q (.int .i64 (more x))
      have K6a := GBox.grown (K6.out.below hI2) gbc (fun e => ho6.2.2 gw rfl e.symm)
      have K4a := GBox.grown (K4.out.below hI2) gbc (fun e => ho4.2.2 gw rfl e.symm)
      have K3a := CBox.grown (K3.out.below hI2) gbc (fun e => (offC HG.out K3.out).2.2 gw rfl e.symm)
      have HGa := bump_setsW (HG.out.below hI2) HW.out q x HX.out
      have HBa := game.Below.by_ (HB.out.trans (Below.mono hI2 HB.out.size)) gbc (Nat.le_trans HB.out.size (Below.size hI2)) (by have := (HG.out.o3.span gw rfl).1; omega)
      have HZa := Nat.le_trans HZr.out.h (Nat.le_trans (Below.size hI2) gbc.size)
      refine u_skip rfl rfl (exec_storeI (x := x) rfl (by kernel_rfl) (by kernel_rfl) d2 ((OwnI.slot HW.out (HG.out.below hI2).o3 q hqn).choose_spec.2.2.1 q)) ⟨K6a.cell.2.2.2.2, by have h1 := K3a.cell.1; rwa [show (Cv.mk 61 cl).c.a = (q : Int) from HQe.out] at h1⟩ ?_
      clear K6 K4 HG HB HZr hS K3a hI hI2 b d1 d2 d0 df ho6 ho4 gbc
      simp only [runsU, Act.put, List.setIfInBounds_toArray, List.set_cons_zero, List.set_cons_succ]
      have K6 := Lib.hid K6a
      have K4 := Lib.hid K4a
      have HG := Lib.hid HGa
      have HB := Lib.hid HBa
      have HZr : Hid (SzA _ _) := Lib.hid ⟨HZa⟩
      clear K6a K4a HGa HBa HZa
      generalize (wb.setCell ⟨gw, q, none⟩ (.int .i64 (more x))) = W6 at K6 K4 HG HB HZr ⊢
      obtain ⟨k6a, k6b, k6c, k6d, k6e⟩ := K6.out.cell
      have k6z := K6.out.lt
      obtain ⟨k4a, k4b, k4c, k4d, k4e⟩ := K4.out.cell
      have k4z := K4.out.lt
      have k4f := K4.out.frozen
      go_wp2_with fail
      try simp only [Exit.inBlock, Exit.then]
      refine bodyPost_ret (res_game2 Try.results29 rfl (K4.out.set_ _ _ _ _ _)) rfl ?_
      have HGf := (((((HG.out.far (g := w.heap.size + 1 + 1) (.inl (by omega)) 0 (.int .i64 s)).far (g := w.heap.size + 1 + 1) (.inl (by omega)) 1 (.int .i64 a)).far (g := w.heap.size + 1 + 1) (.inl (by omega)) 2 (.slice p2 m c2)).far (g := w.heap.size + 1 + 1) (.inl (by omega)) 3 (.slice (some ⟨gs, 0, none⟩) nw cs1)).far (g := w.heap.size + 1 + 1) (.inl (by omega)) 4 (.slice (some ⟨gw, 0, none⟩) nw cw1))
      refine ⟨_, _, _, by rw [HGx.out]; rfl, ?_, by repeat (first | with_reducible exact Below.refl _ _ | with_reducible exact HB.out | with_reducible apply Below.drew | with_reducible apply bdN | with_reducible refine Below.alloc ?_ (by first | exact Nat.le_refl _ | with_reducible exact HB.out.size | omega | (simp; done) | (simp; omega) | (have := HB.out.size; simp at *; omega)) _ | with_reducible refine Below.setCell ?_ (by first | exact Nat.le_refl _ | with_reducible exact HB.out.size | omega | (simp; done) | (simp; omega) | (have := HB.out.size; simp at *; omega)) _)⟩
      rw [HGx.out]
      exact (HGf.base (show w.heap.size ≤ w.heap.size + 1 + 1 + 1 by omega)).top (by have := HZr.out.h; simpa [World.setCell] using this)
    · have HGx : Hid (G = ⟨s, a, L, sc, wt⟩) := Lib.hid (by have h1 := HMD.out; have h2 := HMS.out; have h3 := HMW.out; rw [if_neg (by decide)] at h1 h2 h3; rw [HMk.out, h1, h2, h3])
      clear HTk HMD HMS HMW HMk HKd
      go_wp2_with fail
      refine ((HKk.out _ (by repeat (first | with_reducible exact HR.out | with_reducible apply Rd.drewN | with_reducible apply Rd.drew | with_reducible apply Rd.alloc)))).mono ?_
      rintro e w3 ⟨rfl, b⟩
      have Sw3 := Lib.hid b.size
      have HB := Lib.hid (chain0 (w := w) (by repeat (first | with_reducible exact Below.refl _ _ | with_reducible exact HB.out | with_reducible apply Below.drew | with_reducible apply bdN | with_reducible refine Below.alloc ?_ (by first | exact Nat.le_refl _ | with_reducible exact HB.out.size | omega | (simp; done) | (simp; omega) | (have := HB.out.size; simp at *; omega)) _ | with_reducible refine Below.setCell ?_ (by first | exact Nat.le_refl _ | with_reducible exact HB.out.size | omega | (simp; done) | (simp; omega) | (have := HB.out.size; simp at *; omega)) _)) b)
      have HZr := Lib.hid (SzA.below (by repeat (first | with_reducible exact HZr.out | with_reducible apply SzA.drewN | with_reducible apply SzA.drew | with_reducible apply SzA.alloc)) b)
      have HG := Lib.hid (OwnG.below (by repeat (first | with_reducible exact HG.out | with_reducible apply OwnG.drewN | with_reducible apply OwnG.drew | with_reducible apply OwnG.alloc)) b)
      have HR := Lib.hid (Rd.below (by repeat (first | with_reducible exact HR.out | with_reducible apply Rd.drewN | with_reducible apply Rd.drew | with_reducible apply Rd.alloc)) b)
      have K6 : Hid (GBox _ (g6) (⟨33, s, a, .slice p2 m c2, .slice (some ⟨gs, 0, none⟩) nw cs1, .slice (some ⟨gw, 0, none⟩) nw cw1⟩)) := Lib.hid (GBox.below (by repeat (first | with_reducible exact K6.out | with_reducible apply GBox.drewN | with_reducible apply GBox.drew | (with_reducible refine GBox.newAt ?_ ?_ <;> first | (simp; done) | rfl) | with_reducible apply GBox.alloc)) b)
      have K3 : Hid (CBox _ (w.heap.size + 1) (⟨61, cl⟩)) := Lib.hid (CBox.below (by repeat (first | with_reducible exact K3.out | with_reducible apply CBox.drewN | with_reducible apply CBox.drew | (with_reducible refine CBox.newAt ?_ ?_ <;> first | (simp; done) | rfl) | with_reducible apply CBox.alloc)) b)
      have K4 : Hid (GBox _ (w.heap.size + 1 + 1) (⟨33, 0, 0, .slice none 0 0, .slice none 0 0, .slice none 0 0⟩)) := Lib.hid (GBox.below (by repeat (first | with_reducible exact K4.out | with_reducible apply GBox.drewN | with_reducible apply GBox.drew | (with_reducible refine GBox.newAt ?_ ?_ <;> first | (simp; done) | rfl) | with_reducible apply GBox.alloc)) b)
      try clear k6a k6b k6c k6d k6e k6z
      have k6z := K6.out.lt
      obtain ⟨k6a, k6b, k6c, k6d, k6e⟩ := K6.out.cell
      try clear k6f
      have k6f := K6.out.frozen
      try clear k3a k3b k3c k3d k3z
      have k3z := K3.out.lt
      obtain ⟨k3a, k3b, k3c, k3d⟩ := K3.out.cell
      try clear k4a k4b k4c k4d k4e k4z
      have k4z := K4.out.lt
      obtain ⟨k4a, k4b, k4c, k4d, k4e⟩ := K4.out.cell
      try clear k4f
      have k4f := K4.out.frozen
      clear b
      go_wp2_with fail
      try simp only [Exit.inBlock, Exit.then]
      refine bodyPost_ret (res_game2 Try.results29 rfl (K4.out.set_ _ _ _ _ _)) rfl ?_
      have HGf := (((((HG.out.far (g := w.heap.size + 1 + 1) (.inl (by omega)) 0 (.int .i64 s)).far (g := w.heap.size + 1 + 1) (.inl (by omega)) 1 (.int .i64 a)).far (g := w.heap.size + 1 + 1) (.inl (by omega)) 2 (.slice p2 m c2)).far (g := w.heap.size + 1 + 1) (.inl (by omega)) 3 (.slice (some ⟨gs, 0, none⟩) nw cs1)).far (g := w.heap.size + 1 + 1) (.inl (by omega)) 4 (.slice (some ⟨gw, 0, none⟩) nw cw1))
      refine ⟨_, _, _, by rw [HGx.out]; rfl, ?_, by repeat (first | with_reducible exact Below.refl _ _ | with_reducible exact HB.out | with_reducible apply Below.drew | with_reducible apply bdN | with_reducible refine Below.alloc ?_ (by first | exact Nat.le_refl _ | with_reducible exact HB.out.size | omega | (simp; done) | (simp; omega) | (have := HB.out.size; simp at *; omega)) _ | with_reducible refine Below.setCell ?_ (by first | exact Nat.le_refl _ | with_reducible exact HB.out.size | omega | (simp; done) | (simp; omega) | (have := HB.out.size; simp at *; omega)) _)⟩
      rw [HGx.out]
      exact (HGf.base (show w.heap.size ≤ w.heap.size + 1 + 1 + 1 by omega)).top (by have := HZr.out.h; simpa [World.setCell] using this)
end Go.Proofs.Ytjpfjgoebdogjaa.game

/- MakeClaim: the program's and the model's. -/
namespace Go.Proofs.Ytjpfjgoebdogjaa.game
open Go.RowKit
open cards deal
set_option linter.unusedVariables false

theorem results_cell_tmp2 {fn : Func} {p u v : Tmp} {ty : TypeId} (h : fn.results = #[.cell p ty, .tmp u, .tmp v]) (tmps : Array Value) (P : Program) (w : World) :
    (results fn tmps).run P w = ((asAddr (tmps.getD p undef)).run P w).andThen fun a w₁ => ((loadVar ty a).run P w₁).andThen fun x w₂ => .ok (.tuple #[x, tmps.getD u undef, tmps.getD v undef]) w₂ := by
  simp only [results, h]
  simp [Sem.run_bind, Result.andThen]
theorem res_game3 {fn : Func} {i x y : Tmp} (hf : fn.results = #[.cell i 33, .tmp x, .tmp y]) {tmps : Array Value} {w : World} {g : Nat} {s n : Int} {v u q : Value} (ht : tmps.getD i undef = .pointer (some ⟨g, 0, none⟩)) (h : GBox w g ⟨33, s, n, v, u, q⟩) :
    (results fn tmps).run Try.prog w = .ok (.tuple #[gval s n v u q, tmps.getD x undef, tmps.getD y undef]) w := by
  have hl := load_game h
  rw [results_cell_tmp2 hf, ht]
  simp [asAddr, hl, Result.andThen]
theorem made_s {g : Gm} {c : Cd} (h : g.okP) : (made g c).s = g.s := by
  show (madeD g c).s = g.s
  have hu := up_s h.d
  unfold madeD
  split
  · exact hu
  · exact hu
noncomputable def mcR (g : Gm) (cl : Cd) : Gm × Int × Bool := if g.ok = true then (made g cl, madeK g cl, true) else (gm0, 0, false)
theorem mcR_len (g : Gm) (cl : Cd) : (mcR g cl).1.l.length ≤ 1000 ∧ (mcR g cl).1.sc.length ≤ 1000 ∧ (mcR g cl).1.wr.length ≤ 1000 := by
  unfold mcR
  split
  · rename_i h
    have ho := made_ok (c := cl) (Gm.ok_iff.1 h)
    have h1 := ho.d.len81
    have h4 := ho.p4
    have he := ho.eq
    simp only
    have h1' : (made g cl).l.length ≤ 81 := h1
    omega
  · exact ⟨by decide, by decide, by decide⟩

end Go.Proofs.Ytjpfjgoebdogjaa.game

/- Claims made one after the other: the program's. -/
namespace Go.Proofs.Ytjpfjgoebdogjaa.game
open Go.RowKit
open cards deal
set_option linter.unusedVariables false

theorem kinds_len (g : Gm) (cl : List Cd) : (kinds g cl).length = cl.length := by simp [kinds]
theorem kinds_at (g : Gm) (cl : List Cd) {k : Nat} (h : k < cl.length) : (kinds g cl)[k]? = some (runK g cl k) := by simp [kinds, h]
theorem runG_s {g : Gm} {cl : List Cd} (h : g.okP) : ∀ k, (runG g cl k).s = g.s
  | 0 => rfl
  | k + 1 => by
    simp only [runG]
    split
    · rw [made_s (runG_ok h k)]; exact runG_s h k
    · exact runG_s h k
/-- A Game is stored into a Game's block. -/
theorem game_sets {w : World} {g : Nat} {t : TypeId} {s0 n0 : Int} {v0 u0 q0 : Value} (h : GBox w g ⟨t, s0, n0, v0, u0, q0⟩) (s n : Int) (v u q : Value) :
    GBox (((((w.setCell ⟨g, 0, none⟩ (.int .i64 s)).setCell ⟨g, 1, none⟩ (.int .i64 n)).setCell ⟨g, 2, none⟩ v).setCell ⟨g, 3, none⟩ u).setCell ⟨g, 4, none⟩ q) g ⟨t, s, n, v, u, q⟩ ∧ w.grownBy (((((w.setCell ⟨g, 0, none⟩ (.int .i64 s)).setCell ⟨g, 1, none⟩ (.int .i64 n)).setCell ⟨g, 2, none⟩ v).setCell ⟨g, 3, none⟩ u).setCell ⟨g, 4, none⟩ q) (some g) :=
  ⟨h.set_ s n v u q, ((((gb_cell w g 0 _).trans (gb_cell _ g 1 _)).trans (gb_cell _ g 2 _)).trans (gb_cell _ g 3 _)).trans (gb_cell _ g 4 _)⟩
theorem offI {w : World} {B g : Nat} {v : Value} {l : List Int} (h : OwnI w B v l) {x : Gv} (hb : GBox w g x) (ht : x.t = 33) : ∀ q, v.ownBlock = some q → q ≠ g := by
  obtain ⟨t, s, n, v', u, q⟩ := x
  simp only at ht
  subst ht
  exact row_apart (t := 33) h hb (by decide)
theorem OwnI.grownO {w w1 : World} {B g : Nat} {v : Value} {l : List Int} (h : OwnI w B v l) (hg : w.grownBy w1 (some g)) (ho : ∀ q, v.ownBlock = some q → q ≠ g) : OwnI w1 B v l :=
  World.ownsRow.kept h hg (by
      cases hv : v.ownBlock with
      | none => exact .inl rfl
      | some k => exact .inr (fun e => ho k hv (by injection e)))

set_option maxRecDepth 100000 in
set_option maxHeartbeats 4000000 in
theorem impl_rc (s : Int) (a0 : Nat) (l : List Cd) (sc wt : List Int) (cl : List Cd) (p ps pw q : Option Addr) (n c ns cs nw cw m k0 : Nat) (w : World) (ho : (Gm.mk s a0 l sc wt).okP) (hn : l.length = n) (hs : sc.length = ns) (hw : wt.length = nw) (h0 : p = none → c = 0) (hr : RdG w p ps pw l sc wt) (hm : cl.length = m) (hm60 : m ≤ 60) (hk0 : m ≤ k0) (hrc : Rd w q (flat cl)) (hcw : ∀ x ∈ cl, wfc x) :
    Calls Try.prog 34 #[gval s a0 (.slice p n c) (.slice ps ns cs) (.slice pw nw cw), .slice q m k0] w fun e w' => ∃ vl vs vw vk, e = .returned (.tuple #[gval s (runG ⟨s, a0, l, sc, wt⟩ cl m).nx vl vs vw, vk]) ∧ OwnG w' w.heap.size w'.heap.size vl vs vw (runG ⟨s, a0, l, sc, wt⟩ cl m).l (runG ⟨s, a0, l, sc, wt⟩ cl m).sc (runG ⟨s, a0, l, sc, wt⟩ cl m).wr ∧ OwnI w' w.heap.size vk (kinds ⟨s, a0, l, sc, wt⟩ cl) ∧ Below w.heap.size w w' := by
  have hn81 : n ≤ 81 := by rw [← hn]; exact ho.d.len81
  have hns4 : ns ≤ 4 := by rw [← hs]; exact ho.p4
  have hnw : nw = ns := by rw [← hw, ← hs]; exact ho.eq
  subst hnw
  have HOk := Lib.hid (fun k => runG_ok (cl := cl) ho k)
  have HSe := Lib.hid (fun k => runG_s (cl := cl) ho k)
  have HSt := Lib.hid (fun k c h => runG_step (g := ⟨s, a0, l, sc, wt⟩) (cl := cl) (k := k) (c := c) h)
  have HKa := Lib.hid (fun k c h => runK_at (g := ⟨s, a0, l, sc, wt⟩) (cl := cl) (k := k) (c := c) h)
  have HCp := Lib.hid (fun w h => copy_game s a0 l sc wt p ps pw n c nw cs nw cw w hn hs hw (by omega) (by omega) (by omega) h)
  have HG0 : Hid (runG ⟨s, a0, l, sc, wt⟩ cl 0 = ⟨s, a0, l, sc, wt⟩) := Lib.hid rfl
  have HKl := Lib.hid ((kinds_len ⟨s, a0, l, sc, wt⟩ cl).trans hm)
  have HKx := Lib.hid (fun k h => kinds_at ⟨s, a0, l, sc, wt⟩ cl (k := k) h)
  obtain ⟨RG, hRG⟩ : ∃ RG, runG ⟨s, a0, l, sc, wt⟩ cl = RG := ⟨_, rfl⟩
  obtain ⟨RK, hRK⟩ : ∃ RK, runK ⟨s, a0, l, sc, wt⟩ cl = RK := ⟨_, rfl⟩
  obtain ⟨KN, hKN⟩ : ∃ KN, kinds ⟨s, a0, l, sc, wt⟩ cl = KN := ⟨_, rfl⟩
  rw [hRG] at HOk HSe HG0 ⊢
  simp only [hRG, hRK, hKN] at HSt HKa HKl HKx ⊢
  clear hRG hRK hKN
  have HM := Lib.hid hm
  have HR0 := Lib.hid hr
  have HRc0 := Lib.hid hrc
  have HCw := Lib.hid hcw
  have HN := Lib.hid hn
  have HS := Lib.hid hs
  have HW := Lib.hid hw
  have hmk := madeI m (by omega)
  clear ho hn hs hw hm h0 hr hrc hcw
  have K2 : Hid (GBox ((w.alloc (Gv.obj ⟨33, s, a0, .slice p n c, .slice ps nw cs, .slice pw nw cw⟩)).alloc (Gv.obj ⟨33, 0, 0, .slice none 0 0, .slice none 0 0, .slice none 0 0⟩)) w.heap.size ⟨33, s, a0, .slice p n c, .slice ps nw cs, .slice pw nw cw⟩) := Lib.hid ((GBox.newAt rfl rfl).alloc _)
  have K4 : Hid (GBox ((w.alloc (Gv.obj ⟨33, s, a0, .slice p n c, .slice ps nw cs, .slice pw nw cw⟩)).alloc (Gv.obj ⟨33, 0, 0, .slice none 0 0, .slice none 0 0, .slice none 0 0⟩)) (w.heap.size + 1) ⟨33, 0, 0, .slice none 0 0, .slice none 0 0, .slice none 0 0⟩) := Lib.hid (GBox.newAt (by simp) rfl)
  have HB : Hid (Below w.heap.size w ((w.alloc (Gv.obj ⟨33, s, a0, .slice p n c, .slice ps nw cs, .slice pw nw cw⟩)).alloc (Gv.obj ⟨33, 0, 0, .slice none 0 0, .slice none 0 0, .slice none 0 0⟩))) := Lib.hid (((Below.refl _ _).alloc (Nat.le_refl _) _).alloc (by simp) _)
  go_enter Try.func34, Try.ntmps34
  go_upto_region 1 with fail
  generalize ((w.alloc (Gv.obj ⟨33, s, a0, .slice p n c, .slice ps nw cs, .slice pw nw cw⟩)).alloc (Gv.obj ⟨33, 0, 0, .slice none 0 0, .slice none 0 0, .slice none 0 0⟩)) = W0 at K2 K4 HB ⊢
  have HZ0 := Lib.hid (show w.heap.size + 1 + 1 ≤ W0.heap.size from K4.out.lt)
  obtain ⟨k2a, k2b, k2c, k2d, k2e⟩ := K2.out.cell
  have k2z := K2.out.lt
  have HR := Lib.hid (RdG.below HR0.out HB.out)
  go_wp2_with fail
  refine (HCp.out _ (by repeat (first | with_reducible exact HR.out | with_reducible apply RdG.drewN | with_reducible apply RdG.drew | with_reducible apply RdG.alloc))).mono ?_
  rintro e w1 ⟨vl, vs, vw, rfl, hg1, b⟩
  obtain ⟨p1, c1, ps1, cs1, pw1, cw1, rfl, rfl, rfl, -⟩ := hg1.form
  have HB1 := Lib.hid (chain0 (w := w) HB.out b)
  have K41 := Lib.hid (K4.out.below b)
  have HG1 := Lib.hid (hg1.base (show w.heap.size + 1 + 1 ≤ W0.heap.size from HZ0.out))
  have HZ1 := Lib.hid (Nat.le_trans HZ0.out b.size)
  clear b hg1 k2a k2b k2c k2d k2e k2z HB K2 K4 HR
  have K6 : Hid (GBox (w1.alloc (Gv.obj ⟨33, s, a0, .slice p1 l.length c1, .slice ps1 sc.length cs1, .slice pw1 wt.length cw1⟩)) w1.heap.size ⟨33, s, a0, .slice p1 l.length c1, .slice ps1 sc.length cs1, .slice pw1 wt.length cw1⟩) := Lib.hid (GBox.newAt rfl rfl)
  have HB2 := Lib.hid (HB1.out.alloc HB1.out.size (Gv.obj ⟨33, s, a0, .slice p1 l.length c1, .slice ps1 sc.length cs1, .slice pw1 wt.length cw1⟩))
  have K42 := Lib.hid (K41.out.alloc (Gv.obj ⟨33, s, a0, .slice p1 l.length c1, .slice ps1 sc.length cs1, .slice pw1 wt.length cw1⟩))
  have HG2 := Lib.hid ((HG1.out.alloc (Gv.obj ⟨33, s, a0, .slice p1 l.length c1, .slice ps1 sc.length cs1, .slice pw1 wt.length cw1⟩)).top (show w1.heap.size ≤ (w1.alloc (Gv.obj ⟨33, s, a0, .slice p1 l.length c1, .slice ps1 sc.length cs1, .slice pw1 wt.length cw1⟩)).heap.size by simp))
  obtain ⟨g6, hg6⟩ : ∃ g6, w1.heap.size = g6 := ⟨_, rfl⟩
  rw [hg6] at K6
  have HG6 := Lib.hid (show w.heap.size + 1 + 1 ≤ g6 by have := HZ1.out; omega)
  go_upto_region 2 with fail
  try rw [hg6]
  clear hg6 HG1 K41 HB1 HZ1 HZ0
  generalize (w1.alloc (Gv.obj ⟨33, s, a0, .slice p1 l.length c1, .slice ps1 sc.length cs1, .slice pw1 wt.length cw1⟩)) = W2 at K6 HB2 K42 HG2 ⊢
  clear w1
  have HI := Lib.hid (own_madeI W2 m (by omega))
  have K63 := Lib.hid (K6.out.alloc (.cells (madeCells #[Value.int .i64 0] m) 3))
  have K43 := Lib.hid (K42.out.alloc (.cells (madeCells #[Value.int .i64 0] m) 3))
  have HG3 := Lib.hid ((HG2.out.alloc (.cells (madeCells #[Value.int .i64 0] m) 3)).top (show W2.heap.size ≤ (W2.alloc (.cells (madeCells #[Value.int .i64 0] m) 3)).heap.size by simp))
  have HB3 := Lib.hid (HB2.out.alloc HB2.out.size (.cells (madeCells #[Value.int .i64 0] m) 3))
  obtain ⟨gk, hgk⟩ : ∃ gk, W2.heap.size = gk := ⟨_, rfl⟩
  rw [hgk] at HI
  have HGk := Lib.hid (show w.heap.size + 1 + 1 ≤ gk by have := K6.out.lt; have := HG6.out; omega)
  go_upto_region 3 with fail
  try rw [hgk]
  clear hgk K6 K42 HG2 HB2
  generalize (W2.alloc (.cells (madeCells #[Value.int .i64 0] m) 3)) = W3 at HI K63 K43 HG3 HB3 ⊢
  clear W2 hmk
  go_wp2_with fail
  go_loopw [17] (fun i wr => ∃ (k a : Nat) (L : List Cd) (SC WR : List Int) (p2 ps2 pw2 : Option Addr) (c2 cs2 cw2 : Nat), k ≤ m ∧ i = .int .i64 k ∧ Hid (RG k = ⟨s, a, L, SC, WR⟩) ∧ Hid (GBox wr g6 ⟨33, s, a, .slice p2 L.length c2, .slice ps2 SC.length cs2, .slice pw2 WR.length cw2⟩) ∧ Hid (OwnG wr (w.heap.size + 1 + 1) wr.heap.size (.slice p2 L.length c2) (.slice ps2 SC.length cs2) (.slice pw2 WR.length cw2) L SC WR) ∧ Hid (OwnI wr (w.heap.size + 1 + 1) (.slice (some ⟨gk, 0, none⟩) m m) (partI KN m k)) ∧ Hid (Below w.heap.size w wr) ∧ Hid (GBox wr (w.heap.size + 1) ⟨33, 0, 0, .slice none 0 0, .slice none 0 0, .slice none 0 0⟩)) (fun i _ => m - (intOf i).toNat)
  case atStart => exact ⟨0, a0, l, sc, wt, p1, ps1, pw1, c1, cs1, cw1, Nat.zero_le _, rfl, HG0, K63, HG3, Lib.hid (by rw [partI_zero]; exact OwnI.base HI.out HGk.out), HB3, K43⟩
  case round =>
    clear K63 K43 HG3 HI HB3
    obtain ⟨k, a, L, SC, WR, p2, ps2, pw2, c2, cs2, cw2, hk, rfl, HGe, K6, HG, HI, HB, K4⟩ := hrel
    obtain ⟨k6a, k6b, k6c, k6d, k6e⟩ := K6.out.cell
    have k6z := K6.out.lt
    have k6f := K6.out.frozen
    obtain ⟨k4a, k4b, k4c, k4d, k4e⟩ := K4.out.cell
    have k4z := K4.out.lt
    have k4f := K4.out.frozen
    have m0 : (0 : Int) ≤ (k : Int) := by omega
    by_cases hlt : k < m
    · have m1 : (k : Int) < (m : Int) := by omega
      have m2 : (k : Int) ≤ (k0 : Int) := by omega
      have hok := HOk.out k
      rw [HGe.out] at hok
      obtain ⟨b', o', x, hq, hb, hx, d0, d1, d2, d3⟩ := HRc0.out.card_in HB.out (k := k) (by rw [HM.out]; exact hlt)
      subst hq
      have hst := HSt.out k x hx
      have hka := HKa.out k x hx
      rw [HGe.out] at hst hka
      have HX := Lib.hid (List.mem_iff_getElem?.2 ⟨k, hx⟩)
      have HMk := Lib.hid (fun w h => impl_mk s a L SC WR x p2 ps2 pw2 L.length c2 SC.length cs2 WR.length cw2 w hok rfl rfl rfl (Own.nil0 HG.out.o1) h (HCw.out x HX.out))
      have hok1 := HOk.out (k + 1)
      have hse1 := HSe.out (k + 1)
      rw [← hst] at HMk
      rw [← hka] at HMk
      obtain ⟨kd, hkd⟩ : ∃ kd, RK k = kd := ⟨_, rfl⟩
      have HKd := Lib.hid ((HKx.out k (by rw [HM.out]; exact hlt)).trans (by rw [hkd]))
      obtain ⟨G2, hG2⟩ : ∃ G2, RG (k + 1) = G2 := ⟨_, rfl⟩
      rw [hkd, hG2] at HMk
      rw [hG2] at hok1 hse1
      obtain ⟨s2, x2, L2, SC2, WR2⟩ := G2
      have hs2 : s = s2 := hse1.symm
      subst hs2
      obtain ⟨a2, rfl⟩ : ∃ a2 : Nat, x2 = (a2 : Int) := ⟨x2.toNat, by have h : 0 ≤ x2 := hok1.d.2.1.1; omega⟩
      simp only at HMk
      have HGe2 := Lib.hid hG2
      have HR := Lib.hid (OwnG.rd HG.out)
      clear hok hok1 hse1 hst hka hx hkd hG2 HX
      have HgS := Lib.hid (HI.out.span gk rfl)
      have hgne : ¬ gk = g6 := fun e => offI HI.out K6.out rfl gk rfl e
      have hgne' : ¬ g6 = gk := fun e => hgne e.symm
      go_wp2_with fail
      refine (HMk.out _ (by repeat (first | with_reducible exact HR.out | with_reducible apply RdG.drewN | with_reducible apply RdG.drew | with_reducible apply RdG.alloc))).mono ?_
      rintro e w5 ⟨vl, vs, vw, rfl, hg, b⟩
      obtain ⟨p3, c3, ps3, cs3, pw3, cw3, rfl, rfl, rfl, -⟩ := hg.form
      have HGn := Lib.hid (hg.base (B' := wr.heap.size) (by simp))
      clear hg
      have Sw5 := Lib.hid b.size
      have HB := Lib.hid (chain0 (w := w) (by repeat (first | with_reducible exact Below.refl _ _ | with_reducible exact HB.out | with_reducible apply Below.drew | with_reducible apply bdN | with_reducible refine Below.alloc ?_ (by first | exact Nat.le_refl _ | with_reducible exact HB.out.size | omega | (simp; done) | (simp; omega) | (have := HB.out.size; simp at *; omega)) _ | with_reducible refine Below.setCell ?_ (by first | exact Nat.le_refl _ | with_reducible exact HB.out.size | omega | (simp; done) | (simp; omega) | (have := HB.out.size; simp at *; omega)) _)) b)
      have HI := Lib.hid (OwnI.below (by repeat (first | with_reducible exact HI.out | with_reducible apply OwnI.drewN | with_reducible apply OwnI.drew | with_reducible apply OwnI.alloc)) b)
      have HR := Lib.hid (RdG.below (by repeat (first | with_reducible exact HR.out | with_reducible apply RdG.drewN | with_reducible apply RdG.drew | with_reducible apply RdG.alloc)) b)
      have K6 : Hid (GBox _ (g6) (⟨33, s, a, .slice p2 L.length c2, .slice ps2 SC.length cs2, .slice pw2 WR.length cw2⟩)) := Lib.hid (GBox.below (by repeat (first | with_reducible exact K6.out | with_reducible apply GBox.drewN | with_reducible apply GBox.drew | (with_reducible refine GBox.newAt ?_ ?_ <;> first | (simp; done) | rfl) | with_reducible apply GBox.alloc)) b)
      have K4 : Hid (GBox _ (w.heap.size + 1) (⟨33, 0, 0, .slice none 0 0, .slice none 0 0, .slice none 0 0⟩)) := Lib.hid (GBox.below (by repeat (first | with_reducible exact K4.out | with_reducible apply GBox.drewN | with_reducible apply GBox.drew | (with_reducible refine GBox.newAt ?_ ?_ <;> first | (simp; done) | rfl) | with_reducible apply GBox.alloc)) b)
      try clear k6a k6b k6c k6d k6e k6z
      have k6z := K6.out.lt
      obtain ⟨k6a, k6b, k6c, k6d, k6e⟩ := K6.out.cell
      try clear k6f
      have k6f := K6.out.frozen
      try clear k4a k4b k4c k4d k4e k4z
      have k4z := K4.out.lt
      obtain ⟨k4a, k4b, k4c, k4d, k4e⟩ := K4.out.cell
      try clear k4f
      have k4f := K4.out.frozen
      clear b
      clear HG d0 d1 d2 d3
      obtain ⟨y, hy, e0, ef, _, elt⟩ := OwnI.slot (partI_len HKl.out hk) HI.out k hlt
      have hds := game_sets K6.out s a2 (.slice p3 L2.length c3) (.slice ps3 SC2.length cs3) (.slice pw3 WR2.length cw3)
      have HG5 := (HGn.out.off hds.2 (offG HGn.out K6.out rfl)).top hds.2.size
      have K65 := hds.1
      have HI5 := OwnI.grownO HI.out hds.2 (offI HI.out K6.out rfl)
      have HB5 := game.Below.by_ HB.out hds.2 HB.out.size (by have := HG6.out; omega)
      have K45 := K4.out.grown hds.2 (by have := HG6.out; omega)
      have gbc := gb_cell (((((w5.setCell ⟨g6, 0, none⟩ (.int .i64 s)).setCell ⟨g6, 1, none⟩ (.int .i64 a2)).setCell ⟨g6, 2, none⟩ (.slice p3 L2.length c3)).setCell ⟨g6, 3, none⟩ (.slice ps3 SC2.length cs3)).setCell ⟨g6, 4, none⟩ (.slice pw3 WR2.length cw3)) gk k (.int .i64 kd)
      have HGz := HgS.out
      have K66 := Lib.hid (GBox.grown K65 gbc hgne')
      have K46 := Lib.hid (GBox.grown K45 gbc (by have := HGk.out; omega))
      have HB6 := Lib.hid (game.Below.by_ HB5 gbc HB5.size (by omega))
      have HI6 := Lib.hid (OwnI.store (partI_len HKl.out hk) HI5 k kd)
      rw [partI_set HKl.out hlt HKd.out] at HI6
      have HG6' := Lib.hid ((OwnG.out HG5 (a := gk) (b := gk + 1) (Out.grown gbc (fun q e => by injection e with e; omega)) (.inr (by omega))).top gbc.size)
      have HG7 := Lib.hid (HG6'.out.base (show w.heap.size + 1 + 1 ≤ wr.heap.size by omega))
      clear hy elt hds HG5 K65 HI5 HB5 K45 gbc HGz HGn HG6' HI K6 K4 HR
      go_wp2_with fail
      go_roundw
      case rel => exact ⟨k + 1, a2, L2, SC2, WR2, p3, ps3, pw3, c3, cs3, cw3, by omega, by go_num, HGe2, K66, HG7, HI6, HB6, K46⟩
      case measure => simp [intOf]; omega
    · obtain rfl : m = k := by omega
      have HI2 := Lib.hid HI.out
      rw [partI_all HKl.out] at HI2
      go_wp2_with fail
      try simp only [Exit.inBlock, Exit.then]
      refine bodyPost_ret (res_game2 Try.results34 rfl (K4.out.set_ _ _ _ _ _)) rfl ?_
      have gs := game_sets K4.out s a (.slice p2 L.length c2) (.slice ps2 SC.length cs2) (.slice pw2 WR.length cw2)
      have HGf := (((((HG.out.far (g := w.heap.size + 1) (.inl (by omega)) 0 (.int .i64 s)).far (g := w.heap.size + 1) (.inl (by omega)) 1 (.int .i64 a)).far (g := w.heap.size + 1) (.inl (by omega)) 2 (.slice p2 L.length c2)).far (g := w.heap.size + 1) (.inl (by omega)) 3 (.slice ps2 SC.length cs2)).far (g := w.heap.size + 1) (.inl (by omega)) 4 (.slice pw2 WR.length cw2))
      refine ⟨.slice p2 L.length c2, .slice ps2 SC.length cs2, .slice pw2 WR.length cw2, _, by rw [HGe.out]; rfl, ?_, OwnI.base (OwnI.grownO HI2.out gs.2 (offI HI2.out K4.out rfl)) (show w.heap.size ≤ w.heap.size + 1 + 1 by omega), by repeat (first | with_reducible exact Below.refl _ _ | with_reducible exact HB.out | with_reducible apply Below.drew | with_reducible apply bdN | with_reducible refine Below.alloc ?_ (by first | exact Nat.le_refl _ | with_reducible exact HB.out.size | omega | (simp; done) | (simp; omega) | (have := HB.out.size; simp at *; omega)) _ | with_reducible refine Below.setCell ?_ (by first | exact Nat.le_refl _ | with_reducible exact HB.out.size | omega | (simp; done) | (simp; omega) | (have := HB.out.size; simp at *; omega)) _)⟩
      rw [HGe.out]
      exact (HGf.base (show w.heap.size ≤ w.heap.size + 1 + 1 by omega)).top gs.2.size
end Go.Proofs.Ytjpfjgoebdogjaa.game

/- May a list be made in a Game; the first right one: the program's. -/
namespace Go.Proofs.Ytjpfjgoebdogjaa.game
open Go.RowKit
open cards deal
set_option linter.unusedVariables false

def okR (g : Gm) (m : Nat) : Prop := g.ok = true ∧ m ≤ 60
set_option maxRecDepth 100000 in
set_option maxHeartbeats 2000000 in
theorem can_run (g : Gm) (p ps pw q : Option Addr) (n c ns cs nw cw m k0 : Nat) (w : World) (hf : FitG n c ns cs nw cw p ps pw g) (hr : RdG w p ps pw g.l g.sc g.wr) :
    Calls Try.prog 33 #[gval g.s g.nx (.slice p n c) (.slice ps ns cs) (.slice pw nw cw), .slice q m k0] w fun e w' => e = .returned (.bool (decide (m ≤ 60) && g.ok)) ∧ Below w.heap.size w w' := by
  have HR := Lib.hid hr
  have HC := Lib.hid (fun w h => is_game g p ps pw n c ns cs nw cw w hf h)
  obtain ⟨b, hb⟩ : ∃ b, g.ok = b := ⟨_, rfl⟩
  rw [hb] at HC ⊢
  clear hf hr hb
  obtain ⟨s, nx, l, sc, wt⟩ := g
  simp only at HR HC ⊢
  by_cases h60 : m ≤ 60
  · have HT : Hid ((decide (m ≤ 60) && b) = b) := Lib.hid (by rw [decide_eq_true h60]; rfl)
    rw [HT.out]
    have h1 : (m : Int) ≤ 60 := by omega
    have h2 : decide ((m : Int) ≤ 60) = true := decide_eq_true h1
    clear h60 HT
    go_enter Try.func33, Try.ntmps33
    go_wp2_with fail
    refine ((HC.out _ (by repeat (first | with_reducible exact HR.out | with_reducible apply RdG.drewN | with_reducible apply RdG.drew | with_reducible apply RdG.alloc)))).mono ?_
    rintro e w1 ⟨rfl, b⟩
    have Sw1 := Lib.hid b.size
    have HB := Lib.hid (chain0 (w := w) (by repeat (first | with_reducible exact Below.refl _ _ | with_reducible exact HB.out | with_reducible apply Below.drew | with_reducible apply bdN | with_reducible refine Below.alloc ?_ (by first | exact Nat.le_refl _ | with_reducible exact HB.out.size | omega | (simp; done) | (simp; omega) | (have := HB.out.size; simp at *; omega)) _)) b)
    have HR := Lib.hid (RdG.below (by repeat (first | with_reducible exact HR.out | with_reducible apply RdG.drewN | with_reducible apply RdG.drew | with_reducible apply RdG.alloc)) b)
    have K2 : Hid (GBox _ (w.heap.size) (⟨33, s, nx, .slice p n c, .slice ps ns cs, .slice pw nw cw⟩)) := Lib.hid (GBox.below (by repeat (first | with_reducible exact K2.out | with_reducible apply GBox.drewN | with_reducible apply GBox.drew | (with_reducible refine GBox.newAt ?_ ?_ <;> first | (simp; done) | rfl) | with_reducible apply GBox.alloc)) b)
    try clear k2a k2b k2c k2d k2e k2z
    have k2z := K2.out.lt
    obtain ⟨k2a, k2b, k2c, k2d, k2e⟩ := K2.out.cell
    clear b
    go_wp2_with fail
    go_ret
    exact ⟨rfl, by repeat (first | with_reducible exact Below.refl _ _ | with_reducible exact HB.out | with_reducible apply Below.drew | with_reducible apply bdN | with_reducible refine Below.alloc ?_ (by first | exact Nat.le_refl _ | with_reducible exact HB.out.size | omega | (simp; done) | (simp; omega) | (have := HB.out.size; simp at *; omega)) _)⟩
  · have HT : Hid ((decide (m ≤ 60) && b) = false) := Lib.hid (by rw [decide_eq_false h60]; rfl)
    rw [HT.out]
    have h1 : ¬ (m : Int) ≤ 60 := by omega
    have h2 : decide ((m : Int) ≤ 60) = false := decide_eq_false h1
    clear h60 HT
    go_enter Try.func33, Try.ntmps33
    go_wp2_with fail
    go_ret
    exact ⟨rfl, by repeat (first | with_reducible exact Below.refl _ _ | with_reducible exact HB.out | with_reducible apply Below.drew | with_reducible apply bdN | with_reducible refine Below.alloc ?_ (by first | exact Nat.le_refl _ | with_reducible exact HB.out.size | omega | (simp; done) | (simp; omega) | (have := HB.out.size; simp at *; omega)) _)⟩
noncomputable def frR (g : Gm) (cl : List Cd) : Int × Bool := if g.ok = true ∧ cl.length ≤ 60 then (if posI (kinds g cl) 1 < 0 then (0, false) else (posI (kinds g cl) 1, true)) else (0, false)

end Go.Proofs.Ytjpfjgoebdogjaa.game

/- FirstRight: the model's. -/
namespace Go.Proofs.Ytjpfjgoebdogjaa.game
open Go.RowKit
open cards deal reg
set_option linter.unusedVariables false

theorem exec_indexCl {k n b ad cp : Nat} (hk : k < n) {a : Act} {o : Oper} {p q : Operand} (ho : o.op = .indexAddr 38 p q) (hp : a.eval p = .slice (some ⟨b, ad, none⟩) n cp) (hq : a.eval q = .int .i64 k) (w : World) :
    (execOp a.eval o).run Try.prog w = .ok (.value (.pointer (some ⟨b, ad + k * 4, none⟩))) w := by
  have h0 : (0 : Int) ≤ (k : Int) := by omega
  have h1 : (k : Int) < (n : Int) := by omega
  unfold execOp
  rw [ho]
  simp only [hp, hq]
  go_simp
section
variable {ops : Array Oper} {S I : World → Prop} {n0 : Nat} {obj : Obj} {fin : Act → (World → Prop) → Prop}
/-- A claim is read out of a row. -/
theorem chain_claim (d : Tmp) {i : Nat} {r : List (Bool × Nat)} {a : Act} {o : Oper} (ho : ops[i]? = some o) (hd : o.dst = some d) (hg : o.guard = none)
    (x : Operand) (hx : o.op = .load 61 x) {g off : Nat} (hp : a.eval x = .pointer (some ⟨g, off, none⟩)) (c : Cd)
    (hS : ∀ w, S w → w.cell? ⟨g, off, none⟩ = some (.int .i64 c.a) ∧ w.cell? ⟨g, off + 1, none⟩ = some (.int .i64 c.b) ∧ w.cell? ⟨g, off + 2, none⟩ = some (.int .i64 c.c) ∧ w.cell? ⟨g, off + 3, none⟩ = some (.int .i64 c.d))
    (hr : chainA Try.prog ops S n0 obj fin r (a.put (some d) c.val) I) : chainA Try.prog ops S n0 obj fin ((true, i) :: r) a I :=
  ⟨o, c.val, ho, yieldsIf_load_mid (wanted_of hg) 61 x hx g off hp c.cells _ (fun w hw j v hv => by
    obtain ⟨h0, h1, h2, h3⟩ := hS w hw
    match j, hv with
    | 0, hv => simp [Cd.cells] at hv; rw [← hv]; exact h0
    | 1, hv => simp [Cd.cells] at hv; rw [← hv]; exact h1
    | 2, hv => simp [Cd.cells] at hv; rw [← hv]; exact h2
    | 3, hv => simp [Cd.cells] at hv; rw [← hv]; exact h3
    | n + 4, hv => simp [Cd.cells] at hv) Try.underlying61 rfl (by kernel_rfl), hd ▸ hr⟩
end

end Go.Proofs.Ytjpfjgoebdogjaa.game

/- RunClaims: the model's. -/
namespace Go.Proofs.Ytjpfjgoebdogjaa.game
open Go.RowKit
open cards deal reg
set_option linter.unusedVariables false

theorem BoxJ.set0 {w : World} {g : Nat} {x : Cd} (h : Box w g x) (a : Int) : Box (w.setCell ⟨g, 0, none⟩ (.int .i64 a)) g ⟨a, x.b, x.c, x.d⟩ := by
  unfold Box at h ⊢; rw [heap_setCell_same _ g _ _ _ _ h]; rfl
theorem BoxJ.set1 {w : World} {g : Nat} {x : Cd} (h : Box w g x) (a : Int) : Box (w.setCell ⟨g, 1, none⟩ (.int .i64 a)) g ⟨x.a, a, x.c, x.d⟩ := by
  unfold Box at h ⊢; rw [heap_setCell_same _ g _ _ _ _ h]; rfl
theorem BoxJ.set2 {w : World} {g : Nat} {x : Cd} (h : Box w g x) (a : Int) : Box (w.setCell ⟨g, 2, none⟩ (.int .i64 a)) g ⟨x.a, x.b, a, x.d⟩ := by
  unfold Box at h ⊢; rw [heap_setCell_same _ g _ _ _ _ h]; rfl
theorem BoxJ.set3 {w : World} {g : Nat} {x : Cd} (h : Box w g x) (a : Int) : Box (w.setCell ⟨g, 3, none⟩ (.int .i64 a)) g ⟨x.a, x.b, x.c, a⟩ := by
  unfold Box at h ⊢; rw [heap_setCell_same _ g _ _ _ _ h]; rfl
theorem Box.grownJ {w w1 : World} {g g2 : Nat} {x : Cd} (h : Box w g x) (hg : w.grownBy w1 (some g2)) (hne : g ≠ g2) : Box w1 g x := (hg.block g h.lt (fun e => hne (Option.some.inj e))).trans h
theorem a4_sets {w : World} {g : Nat} {x : Cd} (h : Box w g x) (y : Cd) : Box ((((w.setCell ⟨g, 0, none⟩ (.int .i64 y.a)).setCell ⟨g, 1, none⟩ (.int .i64 y.b)).setCell ⟨g, 2, none⟩ (.int .i64 y.c)).setCell ⟨g, 3, none⟩ (.int .i64 y.d)) g y ∧ w.grownBy ((((w.setCell ⟨g, 0, none⟩ (.int .i64 y.a)).setCell ⟨g, 1, none⟩ (.int .i64 y.b)).setCell ⟨g, 2, none⟩ (.int .i64 y.c)).setCell ⟨g, 3, none⟩ (.int .i64 y.d)) (some g) :=
  ⟨Box.set_ h y, (((gb_cell w g 0 _).trans (gb_cell _ g 1 _)).trans (gb_cell _ g 2 _)).trans (gb_cell _ g 3 _)⟩
theorem OwnG.topDrew {w : World} {B C : Nat} {vl vs vw : Value} {l : List Cd} {sc wr : List Int} (h : OwnG w B C vl vs vw l sc wr) (hz : C ≤ w.heap.size) : OwnG w.drew B w.drew.heap.size vl vs vw l sc wr := OwnG.top (OwnG.drew h) hz
theorem results_cell2_tmp {fn : Func} {p p2 v : Tmp} {ty ty2 : TypeId} (h : fn.results = #[.cell p ty, .cell p2 ty2, .tmp v]) (tmps : Array Value) (P : Program) (w : World) :
    (results fn tmps).run P w = ((asAddr (tmps.getD p undef)).run P w).andThen fun a w₁ => ((loadVar ty a).run P w₁).andThen fun x w₂ => ((asAddr (tmps.getD p2 undef)).run P w₂).andThen fun a2 w₃ => ((loadVar ty2 a2).run P w₃).andThen fun x2 w₄ => .ok (.tuple #[x, x2, tmps.getD v undef]) w₄ := by
  simp only [results, h]
  simp [Sem.run_bind, Result.andThen]
theorem load_a4 {w : World} {g : Nat} {c : Cd} (h : Box w g c) : (loadVar 34 ⟨g, 0, none⟩).run Try.prog w = .ok c.val w :=
  run_loadVar_row w g 34 34 #[.int .i64 c.a, .int .i64 c.b, .int .i64 c.c, .int .i64 c.d] (0, 0) _ h Try.underlying34 rfl (by kernel_rfl)
theorem res_ga4 {fn : Func} {i j y : Tmp} (hf : fn.results = #[.cell i 33, .cell j 34, .tmp y]) {tmps : Array Value} {w : World} {g g2 : Nat} {s n : Int} {v u q : Value} {c : Cd} (ht : tmps.getD i undef = .pointer (some ⟨g, 0, none⟩)) (ht2 : tmps.getD j undef = .pointer (some ⟨g2, 0, none⟩)) (h : GBox w g ⟨33, s, n, v, u, q⟩) (h2 : Box w g2 c) :
    (results fn tmps).run Try.prog w = .ok (.tuple #[gval s n v u q, c.val, tmps.getD y undef]) w := by
  have hl := load_game h
  have hl2 := load_a4 h2
  rw [results_cell2_tmp hf, ht, ht2]
  simp [asAddr, hl, hl2, Result.andThen]
noncomputable def cnts (g : Gm) (cl : List Cd) (k : Nat) : Cd := ⟨0, cnt g cl 1 k, cnt g cl 2 k, cnt g cl 3 k⟩
noncomputable def rcR (g : Gm) (cl : List Cd) : Gm × Cd × Bool := if g.ok = true ∧ cl.length ≤ 60 then (runG g cl cl.length, cnts g cl cl.length, true) else (gm0, ⟨0, 0, 0, 0⟩, false)
theorem rcR_len (g : Gm) (cl : List Cd) : (rcR g cl).1.l.length ≤ 1000 ∧ (rcR g cl).1.sc.length ≤ 1000 ∧ (rcR g cl).1.wr.length ≤ 1000 := by
  unfold rcR
  split
  · rename_i h
    have ho := runG_ok (cl := cl) (Gm.ok_iff.1 h.1) cl.length
    have h1 := ho.d.len81
    have h4 := ho.p4
    have he := ho.eq
    simp only
    have h1' : (runG g cl cl.length).l.length ≤ 81 := h1
    omega
  · exact ⟨by decide, by decide, by decide⟩

set_option maxRecDepth 100000 in
set_option maxHeartbeats 4000000 in
theorem spec_rc (g : Gm) (cl : List Cd) (q : Option Addr) (k0 : Nat) (p ps pw : Option Addr) (n c ns cs nw cw m : Nat) (w : World) (hf : FitG n c ns cs nw cw p ps pw g) (hr : RdG w p ps pw g.l g.sc g.wr) (hm : cl.length = m) (hk0 : m ≤ k0) (hcw : ∀ x ∈ cl, wfc x) (hrc : Rd w q (flat cl)) :
    Calls Try.prog 8 #[gval g.s g.nx (.slice p n c) (.slice ps ns cs) (.slice pw nw cw), .slice q m k0] w fun e w' => ∃ vl vs vw, e = .returned (.tuple #[gval (rcR g cl).1.s (rcR g cl).1.nx vl vs vw, (rcR g cl).2.1.val, .bool (rcR g cl).2.2]) ∧ OwnG w' w.heap.size w'.heap.size vl vs vw (rcR g cl).1.l (rcR g cl).1.sc (rcR g cl).1.wr ∧ Below w.heap.size w w' := by
  have HR0 := Lib.hid hr
  have HC := Lib.hid (fun w h => l8_game g p ps pw n c ns cs nw cw w hf h)
  have K2 : Hid (GBox ((((w.alloc (Gv.obj ⟨33, g.s, g.nx, .slice p n c, .slice ps ns cs, .slice pw nw cw⟩)).alloc (Gv.obj ⟨33, 0, 0, .slice none 0 0, .slice none 0 0, .slice none 0 0⟩)).alloc (.cells #[.int .i64 0, .int .i64 0, .int .i64 0, .int .i64 0] 34)).alloc (.cells #[.int .i64 0, .int .i64 0, .int .i64 0, .int .i64 0] 34)) w.heap.size ⟨33, g.s, g.nx, .slice p n c, .slice ps ns cs, .slice pw nw cw⟩) := Lib.hid ((((GBox.newAt rfl rfl).alloc _).alloc _).alloc _)
  have K4 : Hid (GBox ((((w.alloc (Gv.obj ⟨33, g.s, g.nx, .slice p n c, .slice ps ns cs, .slice pw nw cw⟩)).alloc (Gv.obj ⟨33, 0, 0, .slice none 0 0, .slice none 0 0, .slice none 0 0⟩)).alloc (.cells #[.int .i64 0, .int .i64 0, .int .i64 0, .int .i64 0] 34)).alloc (.cells #[.int .i64 0, .int .i64 0, .int .i64 0, .int .i64 0] 34)) (w.heap.size + 1) ⟨33, 0, 0, .slice none 0 0, .slice none 0 0, .slice none 0 0⟩) := Lib.hid (((GBox.newAt (by simp) rfl).alloc _).alloc _)
  have K5 : Hid (Box ((((w.alloc (Gv.obj ⟨33, g.s, g.nx, .slice p n c, .slice ps ns cs, .slice pw nw cw⟩)).alloc (Gv.obj ⟨33, 0, 0, .slice none 0 0, .slice none 0 0, .slice none 0 0⟩)).alloc (.cells #[.int .i64 0, .int .i64 0, .int .i64 0, .int .i64 0] 34)).alloc (.cells #[.int .i64 0, .int .i64 0, .int .i64 0, .int .i64 0] 34)) (w.heap.size + 1 + 1) ⟨0, 0, 0, 0⟩) := Lib.hid (Box.alloc (Box.newAt (x := ⟨0, 0, 0, 0⟩) (o := .cells #[.int .i64 0, .int .i64 0, .int .i64 0, .int .i64 0] 34) (by simp) rfl) _)
  have K7 : Hid (Box ((((w.alloc (Gv.obj ⟨33, g.s, g.nx, .slice p n c, .slice ps ns cs, .slice pw nw cw⟩)).alloc (Gv.obj ⟨33, 0, 0, .slice none 0 0, .slice none 0 0, .slice none 0 0⟩)).alloc (.cells #[.int .i64 0, .int .i64 0, .int .i64 0, .int .i64 0] 34)).alloc (.cells #[.int .i64 0, .int .i64 0, .int .i64 0, .int .i64 0] 34)) (w.heap.size + 1 + 1 + 1) ⟨0, 0, 0, 0⟩) := Lib.hid (Box.newAt (x := ⟨0, 0, 0, 0⟩) (o := .cells #[.int .i64 0, .int .i64 0, .int .i64 0, .int .i64 0] 34) (by simp) rfl)
  have HB : Hid (Below w.heap.size w ((((w.alloc (Gv.obj ⟨33, g.s, g.nx, .slice p n c, .slice ps ns cs, .slice pw nw cw⟩)).alloc (Gv.obj ⟨33, 0, 0, .slice none 0 0, .slice none 0 0, .slice none 0 0⟩)).alloc (.cells #[.int .i64 0, .int .i64 0, .int .i64 0, .int .i64 0] 34)).alloc (.cells #[.int .i64 0, .int .i64 0, .int .i64 0, .int .i64 0] 34))) := Lib.hid (((((Below.refl _ _).alloc (Nat.le_refl _) _).alloc (by simp) _).alloc (by simp; omega) _).alloc (by simp; omega) _)
  have HR := Lib.hid (RdG.below HR0.out HB.out)
  cases hok : g.ok
  · have HT : Hid (rcR g cl = (gm0, ⟨0, 0, 0, 0⟩, false)) := Lib.hid (by unfold rcR; rw [if_neg (by rw [hok]; simp)])
    rw [hok] at HC
    rw [HT.out]
    clear hf hr hrc hok hm HT
    obtain ⟨s, nx, l, sc, wt⟩ := g
    simp only at HR HC K2 K4 K5 K7 HB ⊢
    go_enter Try.func8, Try.ntmps8
    go_upto_region 2 with fail
    generalize ((((w.alloc (Gv.obj ⟨33, s, nx, .slice p n c, .slice ps ns cs, .slice pw nw cw⟩)).alloc (Gv.obj ⟨33, 0, 0, .slice none 0 0, .slice none 0 0, .slice none 0 0⟩)).alloc (.cells #[.int .i64 0, .int .i64 0, .int .i64 0, .int .i64 0] 34)).alloc (.cells #[.int .i64 0, .int .i64 0, .int .i64 0, .int .i64 0] 34)) = W0 at K2 K4 K5 K7 HB HR ⊢
    obtain ⟨k2a, k2b, k2c, k2d, k2e⟩ := K2.out.cell
    have k2z := K2.out.lt
    go_wp2_with fail
    refine ((HC.out _ (by repeat (first | with_reducible exact HR.out | with_reducible apply RdG.drewN | with_reducible apply RdG.drew | with_reducible apply RdG.alloc)))).mono ?_
    rintro e w1 ⟨rfl, b⟩
    have Sw1 := Lib.hid b.size
    have HB := Lib.hid (chain0 (w := w) (by repeat (first | with_reducible exact Below.refl _ _ | with_reducible exact HB.out | with_reducible apply Below.drew | with_reducible apply bdN | with_reducible refine Below.alloc ?_ (by first | exact Nat.le_refl _ | with_reducible exact HB.out.size | omega | (simp; done) | (simp; omega) | (have := HB.out.size; simp at *; omega)) _)) b)
    have HR := Lib.hid (RdG.below (by repeat (first | with_reducible exact HR.out | with_reducible apply RdG.drewN | with_reducible apply RdG.drew | with_reducible apply RdG.alloc)) b)
    have K2 : Hid (GBox _ (w.heap.size) (⟨33, s, nx, .slice p n c, .slice ps ns cs, .slice pw nw cw⟩)) := Lib.hid (GBox.below (by repeat (first | with_reducible exact K2.out | with_reducible apply GBox.drewN | with_reducible apply GBox.drew | (with_reducible refine GBox.newAt ?_ ?_ <;> first | (simp; done) | rfl) | with_reducible apply GBox.alloc)) b)
    have K4 : Hid (GBox _ (w.heap.size + 1) (⟨33, 0, 0, .slice none 0 0, .slice none 0 0, .slice none 0 0⟩)) := Lib.hid (GBox.below (by repeat (first | with_reducible exact K4.out | with_reducible apply GBox.drewN | with_reducible apply GBox.drew | (with_reducible refine GBox.newAt ?_ ?_ <;> first | (simp; done) | rfl) | with_reducible apply GBox.alloc)) b)
    have K5 : Hid (Box _ (w.heap.size + 1 + 1) (⟨0, 0, 0, 0⟩)) := Lib.hid (Box.below (by repeat (first | with_reducible exact K5.out | with_reducible apply Box.drewN | with_reducible apply Box.drew | (with_reducible refine Box.newAt ?_ ?_ <;> first | (simp; done) | rfl) | with_reducible apply Box.alloc)) b)
    have K7 : Hid (Box _ (w.heap.size + 1 + 1 + 1) (⟨0, 0, 0, 0⟩)) := Lib.hid (Box.below (by repeat (first | with_reducible exact K7.out | with_reducible apply Box.drewN | with_reducible apply Box.drew | (with_reducible refine Box.newAt ?_ ?_ <;> first | (simp; done) | rfl) | with_reducible apply Box.alloc)) b)
    try clear k2a k2b k2c k2d k2e k2z
    have k2z := K2.out.lt
    obtain ⟨k2a, k2b, k2c, k2d, k2e⟩ := K2.out.cell
    try clear k4a k4b k4c k4d k4e k4z
    have k4z := K4.out.lt
    obtain ⟨k4a, k4b, k4c, k4d, k4e⟩ := K4.out.cell
    try clear k4f
    have k4f := K4.out.frozen
    try clear k5a k5b k5c k5d k5z
    have k5z := K5.out.lt
    obtain ⟨k5a, k5b, k5c, k5d⟩ := K5.out.cell
    try clear k5f
    have k5f := K5.out.frozen
    try clear k7a k7b k7c k7d k7z
    have k7z := K7.out.lt
    obtain ⟨k7a, k7b, k7c, k7d⟩ := K7.out.cell
    clear b
    go_upto_region 3 with fail
    go_region
    go_wp2_with fail
    have gs := game_sets K4.out 0 0 (.slice none 0 0) (.slice none 0 0) (.slice none 0 0)
    have h4s := a4_sets (Box.grownJ K5.out gs.2 (by omega)) ⟨0, 0, 0, 0⟩
    refine bodyPost_ret (res_ga4 Try.results8 rfl rfl (GBox.drew (GBox.grown gs.1 h4s.2 (by omega))) (Box.drew h4s.1)) rfl ?_
    have hb := game.Below.by_ (game.Below.by_ HB.out gs.2 HB.out.size (by omega)) h4s.2 (Nat.le_trans HB.out.size gs.2.size) (by omega)
    exact ⟨.slice none 0 0, .slice none 0 0, .slice none 0 0, rfl, (OwnG.empty _ _).top (by have := HB.out.size; have := gs.2.size; have := h4s.2.size; simpa [World.setCell] using HB.out.size), hb.drew⟩
  · by_cases hm60 : m ≤ 60
    · have ho := Gm.ok_iff.1 hok
      rw [hok] at HC
      have HT : Hid (rcR g cl = (runG g cl m, cnts g cl m, true)) := Lib.hid (by unfold rcR; rw [if_pos ⟨hok, by rw [hm]; exact hm60⟩, hm])
      obtain ⟨s, nx, l, sc, wt⟩ := g
      obtain ⟨a0, rfl⟩ : ∃ a0 : Nat, nx = (a0 : Int) := ⟨nx.toNat, by have h : 0 ≤ nx := ho.d.2.1.1; omega⟩
      have hns1 : 0 < ns := by rw [← hf.hs]; exact ho.p1
      have hns4 : ns ≤ 4 := by rw [← hf.hs]; exact ho.p4
      have hnw : nw = ns := by rw [← hf.hw, ← hf.hs]; exact ho.eq
      subst hnw
      have hn81 : n ≤ 81 := by rw [← hf.hn]; exact ho.d.len81
      have HOk := Lib.hid (fun k => runG_ok (cl := cl) ho k)
      have HSe := Lib.hid (fun k => runG_s (cl := cl) ho k)
      have HSt := Lib.hid (fun k c h => runG_step (g := ⟨s, a0, l, sc, wt⟩) (cl := cl) (k := k) (c := c) h)
      have HKa := Lib.hid (fun k c h => runK_at (g := ⟨s, a0, l, sc, wt⟩) (cl := cl) (k := k) (c := c) h)
      have HKb := Lib.hid (fun k => runK_bd ⟨s, a0, l, sc, wt⟩ cl k)
      have HG0 : Hid (runG ⟨s, a0, l, sc, wt⟩ cl 0 = ⟨s, a0, l, sc, wt⟩) := Lib.hid rfl
      have HC0 : Hid (cnts ⟨s, a0, l, sc, wt⟩ cl 0 = ⟨0, 0, 0, 0⟩) := Lib.hid rfl
      have HCs : Hid (∀ k, cnts ⟨s, a0, l, sc, wt⟩ cl (k + 1) = ⟨0, (cnts ⟨s, a0, l, sc, wt⟩ cl k).b + (if runK ⟨s, a0, l, sc, wt⟩ cl k = 1 then 1 else 0), (cnts ⟨s, a0, l, sc, wt⟩ cl k).c + (if runK ⟨s, a0, l, sc, wt⟩ cl k = 2 then 1 else 0), (cnts ⟨s, a0, l, sc, wt⟩ cl k).d + (if runK ⟨s, a0, l, sc, wt⟩ cl k = 3 then 1 else 0)⟩) := Lib.hid (fun k => rfl)
      have HCb : Hid (∀ k, 0 ≤ (cnts ⟨s, a0, l, sc, wt⟩ cl k).b ∧ (cnts ⟨s, a0, l, sc, wt⟩ cl k).b ≤ k ∧ 0 ≤ (cnts ⟨s, a0, l, sc, wt⟩ cl k).c ∧ (cnts ⟨s, a0, l, sc, wt⟩ cl k).c ≤ k ∧ 0 ≤ (cnts ⟨s, a0, l, sc, wt⟩ cl k).d ∧ (cnts ⟨s, a0, l, sc, wt⟩ cl k).d ≤ k) := Lib.hid (fun k => ⟨(cnt_bd _ _ _ k).1, (cnt_bd _ _ _ k).2, (cnt_bd _ _ _ k).1, (cnt_bd _ _ _ k).2, (cnt_bd _ _ _ k).1, (cnt_bd _ _ _ k).2⟩)
      have HCa : Hid (∀ k, (cnts ⟨s, a0, l, sc, wt⟩ cl k).a = 0) := Lib.hid (fun k => rfl)
      obtain ⟨RG, hRG⟩ : ∃ RG, runG ⟨s, a0, l, sc, wt⟩ cl = RG := ⟨_, rfl⟩
      obtain ⟨RK, hRK⟩ : ∃ RK, runK ⟨s, a0, l, sc, wt⟩ cl = RK := ⟨_, rfl⟩
      obtain ⟨CN, hCN⟩ : ∃ CN, cnts ⟨s, a0, l, sc, wt⟩ cl = CN := ⟨_, rfl⟩
      rw [hRG] at HOk HSe HG0
      simp only [hRG, hRK, hCN] at HSt HKa HT HCs HC0 HKb HCb HCa
      clear hRG hRK hCN
      have HM := Lib.hid hm
      have HRc0 := Lib.hid hrc
      have HCw := Lib.hid hcw
      have HN := Lib.hid hf.hn
      have HS := Lib.hid hf.hs
      have HW := Lib.hid hf.hw
      have HCp := Lib.hid (fun w h => l8_own s a0 l sc wt p ps pw n c nw cs nw cw w hf.hn hf.hs hf.hw (by omega) (by omega) (by omega) hns1 hns1 hf.z h)
      have m60 : ¬ 60 < (m : Int) := by omega
      obtain ⟨FR, hFR⟩ : ∃ FR, rcR ⟨s, a0, l, sc, wt⟩ cl = FR := ⟨_, rfl⟩
      rw [hFR] at HT ⊢
      clear hf hr hrc hok hm ho hcw hFR
      simp only at HR HC HN HS HW K2 K4 K5 K7 HB ⊢
      go_enter Try.func8, Try.ntmps8
      go_upto_region 2 with fail
      generalize ((((w.alloc (Gv.obj ⟨33, s, a0, .slice p n c, .slice ps nw cs, .slice pw nw cw⟩)).alloc (Gv.obj ⟨33, 0, 0, .slice none 0 0, .slice none 0 0, .slice none 0 0⟩)).alloc (.cells #[.int .i64 0, .int .i64 0, .int .i64 0, .int .i64 0] 34)).alloc (.cells #[.int .i64 0, .int .i64 0, .int .i64 0, .int .i64 0] 34)) = W0 at K2 K4 K5 K7 HB HR ⊢
      obtain ⟨k2a, k2b, k2c, k2d, k2e⟩ := K2.out.cell
      have k2z := K2.out.lt
      go_wp2_with fail
      refine ((HC.out _ (by repeat (first | with_reducible exact HR.out | with_reducible apply RdG.drewN | with_reducible apply RdG.drew | with_reducible apply RdG.alloc)))).mono ?_
      rintro e w1 ⟨rfl, b⟩
      have Sw1 := Lib.hid b.size
      have HB := Lib.hid (chain0 (w := w) (by repeat (first | with_reducible exact Below.refl _ _ | with_reducible exact HB.out | with_reducible apply Below.drew | with_reducible apply bdN | with_reducible refine Below.alloc ?_ (by first | exact Nat.le_refl _ | with_reducible exact HB.out.size | omega | (simp; done) | (simp; omega) | (have := HB.out.size; simp at *; omega)) _)) b)
      have HR := Lib.hid (RdG.below (by repeat (first | with_reducible exact HR.out | with_reducible apply RdG.drewN | with_reducible apply RdG.drew | with_reducible apply RdG.alloc)) b)
      have K4 : Hid (GBox _ (w.heap.size + 1) (⟨33, 0, 0, .slice none 0 0, .slice none 0 0, .slice none 0 0⟩)) := Lib.hid (GBox.below (by repeat (first | with_reducible exact K4.out | with_reducible apply GBox.drewN | with_reducible apply GBox.drew | (with_reducible refine GBox.newAt ?_ ?_ <;> first | (simp; done) | rfl) | with_reducible apply GBox.alloc)) b)
      have K5 : Hid (Box _ (w.heap.size + 1 + 1) (⟨0, 0, 0, 0⟩)) := Lib.hid (Box.below (by repeat (first | with_reducible exact K5.out | with_reducible apply Box.drewN | with_reducible apply Box.drew | (with_reducible refine Box.newAt ?_ ?_ <;> first | (simp; done) | rfl) | with_reducible apply Box.alloc)) b)
      have K7 : Hid (Box _ (w.heap.size + 1 + 1 + 1) (⟨0, 0, 0, 0⟩)) := Lib.hid (Box.below (by repeat (first | with_reducible exact K7.out | with_reducible apply Box.drewN | with_reducible apply Box.drew | (with_reducible refine Box.newAt ?_ ?_ <;> first | (simp; done) | rfl) | with_reducible apply Box.alloc)) b)
      have K2 : Hid (GBox _ (w.heap.size) (⟨33, s, a0, .slice p n c, .slice ps nw cs, .slice pw nw cw⟩)) := Lib.hid (GBox.below (by repeat (first | with_reducible exact K2.out | with_reducible apply GBox.drewN | with_reducible apply GBox.drew | (with_reducible refine GBox.newAt ?_ ?_ <;> first | (simp; done) | rfl) | with_reducible apply GBox.alloc)) b)
      try clear k4a k4b k4c k4d k4e k4z
      have k4z := K4.out.lt
      obtain ⟨k4a, k4b, k4c, k4d, k4e⟩ := K4.out.cell
      try clear k4f
      have k4f := K4.out.frozen
      try clear k5a k5b k5c k5d k5z
      have k5z := K5.out.lt
      obtain ⟨k5a, k5b, k5c, k5d⟩ := K5.out.cell
      try clear k5f
      have k5f := K5.out.frozen
      try clear k7a k7b k7c k7d k7z
      have k7z := K7.out.lt
      obtain ⟨k7a, k7b, k7c, k7d⟩ := K7.out.cell
      try clear k2a k2b k2c k2d k2e k2z
      have k2z := K2.out.lt
      obtain ⟨k2a, k2b, k2c, k2d, k2e⟩ := K2.out.cell
      clear b
      have HZ1 := Lib.hid (show w.heap.size + 1 + 1 + 1 + 1 ≤ w1.heap.size from K7.out.lt)
      go_wp2_with fail
      refine (HCp.out _ (by repeat (first | with_reducible exact HR.out | with_reducible apply RdG.drewN | with_reducible apply RdG.drew | with_reducible apply RdG.alloc))).mono ?_
      rintro e w2 ⟨vl, vs, vw, rfl, hg2, b⟩
      obtain ⟨p1, c1, ps1, cs1, pw1, cw1, rfl, rfl, rfl, -⟩ := hg2.form
      have HG := Lib.hid (hg2.base HZ1.out)
      have Sw2 := Lib.hid b.size
      have HB := Lib.hid (chain0 (w := w) (by repeat (first | with_reducible exact Below.refl _ _ | with_reducible exact HB.out | with_reducible apply Below.drew | with_reducible apply bdN | with_reducible refine Below.alloc ?_ (by first | exact Nat.le_refl _ | with_reducible exact HB.out.size | omega | (simp; done) | (simp; omega) | (have := HB.out.size; simp at *; omega)) _)) b)
      have HR := Lib.hid (RdG.below (by repeat (first | with_reducible exact HR.out | with_reducible apply RdG.drewN | with_reducible apply RdG.drew | with_reducible apply RdG.alloc)) b)
      have K4 : Hid (GBox _ (w.heap.size + 1) (⟨33, 0, 0, .slice none 0 0, .slice none 0 0, .slice none 0 0⟩)) := Lib.hid (GBox.below (by repeat (first | with_reducible exact K4.out | with_reducible apply GBox.drewN | with_reducible apply GBox.drew | (with_reducible refine GBox.newAt ?_ ?_ <;> first | (simp; done) | rfl) | with_reducible apply GBox.alloc)) b)
      have K5 : Hid (Box _ (w.heap.size + 1 + 1) (⟨0, 0, 0, 0⟩)) := Lib.hid (Box.below (by repeat (first | with_reducible exact K5.out | with_reducible apply Box.drewN | with_reducible apply Box.drew | (with_reducible refine Box.newAt ?_ ?_ <;> first | (simp; done) | rfl) | with_reducible apply Box.alloc)) b)
      have K7 : Hid (Box _ (w.heap.size + 1 + 1 + 1) (⟨0, 0, 0, 0⟩)) := Lib.hid (Box.below (by repeat (first | with_reducible exact K7.out | with_reducible apply Box.drewN | with_reducible apply Box.drew | (with_reducible refine Box.newAt ?_ ?_ <;> first | (simp; done) | rfl) | with_reducible apply Box.alloc)) b)
      have K2 : Hid (GBox _ (w.heap.size) (⟨33, s, a0, .slice p n c, .slice ps nw cs, .slice pw nw cw⟩)) := Lib.hid (GBox.below (by repeat (first | with_reducible exact K2.out | with_reducible apply GBox.drewN | with_reducible apply GBox.drew | (with_reducible refine GBox.newAt ?_ ?_ <;> first | (simp; done) | rfl) | with_reducible apply GBox.alloc)) b)
      try clear k4a k4b k4c k4d k4e k4z
      have k4z := K4.out.lt
      obtain ⟨k4a, k4b, k4c, k4d, k4e⟩ := K4.out.cell
      try clear k4f
      have k4f := K4.out.frozen
      try clear k5a k5b k5c k5d k5z
      have k5z := K5.out.lt
      obtain ⟨k5a, k5b, k5c, k5d⟩ := K5.out.cell
      try clear k5f
      have k5f := K5.out.frozen
      try clear k7a k7b k7c k7d k7z
      have k7z := K7.out.lt
      obtain ⟨k7a, k7b, k7c, k7d⟩ := K7.out.cell
      try clear k2a k2b k2c k2d k2e k2z
      have k2z := K2.out.lt
      obtain ⟨k2a, k2b, k2c, k2d, k2e⟩ := K2.out.cell
      clear b
      clear hg2
      have HZ2 := Lib.hid (show w.heap.size + 1 + 1 + 1 + 1 ≤ w2.heap.size from K7.out.lt)
      go_upto_region 5 with fail
      have K8 : Hid (GBox (w2.alloc (Gv.obj (⟨33, s, a0, .slice p1 l.length c1, .slice ps1 sc.length cs1, .slice pw1 wt.length cw1⟩))) w2.heap.size (⟨33, s, a0, .slice p1 l.length c1, .slice ps1 sc.length cs1, .slice pw1 wt.length cw1⟩)) := Lib.hid (GBox.newAt rfl rfl)
      obtain ⟨g8, hg⟩ : ∃ g8, w2.heap.size = g8 := ⟨_, rfl⟩
      have HGg8 := Lib.hid hg
      rw [hg] at K8
      try rw [hg]
      clear hg
      obtain ⟨w3, ew, b⟩ : ∃ wOPN : World, wOPN = (w2.alloc (Gv.obj (⟨33, s, a0, .slice p1 l.length c1, .slice ps1 sc.length cs1, .slice pw1 wt.length cw1⟩))) ∧ Below ((w2.alloc (Gv.obj (⟨33, s, a0, .slice p1 l.length c1, .slice ps1 sc.length cs1, .slice pw1 wt.length cw1⟩)))).heap.size ((w2.alloc (Gv.obj (⟨33, s, a0, .slice p1 l.length c1, .slice ps1 sc.length cs1, .slice pw1 wt.length cw1⟩)))) wOPN := ⟨_, rfl, Below.refl _ _⟩
      rw [← ew]
      clear ew
      have Sw3 := Lib.hid b.size
      have HB := Lib.hid (chain0 (w := w) (by repeat (first | with_reducible exact Below.refl _ _ | with_reducible exact HB.out | with_reducible apply Below.drew | with_reducible apply bdN | with_reducible refine Below.alloc ?_ (by first | exact Nat.le_refl _ | with_reducible exact HB.out.size | omega | (simp; done) | (simp; omega) | (have := HB.out.size; simp at *; omega)) _)) b)
      have HR := Lib.hid (RdG.below (by repeat (first | with_reducible exact HR.out | with_reducible apply RdG.drewN | with_reducible apply RdG.drew | with_reducible apply RdG.alloc)) b)
      have HG := Lib.hid (OwnG.below (by repeat (first | with_reducible exact HG.out | with_reducible apply OwnG.drewN | with_reducible apply OwnG.drew | with_reducible apply OwnG.alloc)) b)
      have K4 : Hid (GBox _ (w.heap.size + 1) (⟨33, 0, 0, .slice none 0 0, .slice none 0 0, .slice none 0 0⟩)) := Lib.hid (GBox.below (by repeat (first | with_reducible exact K4.out | with_reducible apply GBox.drewN | with_reducible apply GBox.drew | (with_reducible refine GBox.newAt ?_ ?_ <;> first | (simp; done) | rfl) | with_reducible apply GBox.alloc)) b)
      have K5 : Hid (Box _ (w.heap.size + 1 + 1) (⟨0, 0, 0, 0⟩)) := Lib.hid (Box.below (by repeat (first | with_reducible exact K5.out | with_reducible apply Box.drewN | with_reducible apply Box.drew | (with_reducible refine Box.newAt ?_ ?_ <;> first | (simp; done) | rfl) | with_reducible apply Box.alloc)) b)
      have K7 : Hid (Box _ (w.heap.size + 1 + 1 + 1) (⟨0, 0, 0, 0⟩)) := Lib.hid (Box.below (by repeat (first | with_reducible exact K7.out | with_reducible apply Box.drewN | with_reducible apply Box.drew | (with_reducible refine Box.newAt ?_ ?_ <;> first | (simp; done) | rfl) | with_reducible apply Box.alloc)) b)
      have K2 : Hid (GBox _ (w.heap.size) (⟨33, s, a0, .slice p n c, .slice ps nw cs, .slice pw nw cw⟩)) := Lib.hid (GBox.below (by repeat (first | with_reducible exact K2.out | with_reducible apply GBox.drewN | with_reducible apply GBox.drew | (with_reducible refine GBox.newAt ?_ ?_ <;> first | (simp; done) | rfl) | with_reducible apply GBox.alloc)) b)
      have K8 : Hid (GBox _ (g8) (⟨33, s, a0, .slice p1 l.length c1, .slice ps1 sc.length cs1, .slice pw1 wt.length cw1⟩)) := Lib.hid (GBox.below (by repeat (first | with_reducible exact K8.out | with_reducible apply GBox.drewN | with_reducible apply GBox.drew | (with_reducible refine GBox.newAt ?_ ?_ <;> first | (simp; done) | rfl) | with_reducible apply GBox.alloc)) b)
      try clear k4a k4b k4c k4d k4e k4z
      have k4z := K4.out.lt
      obtain ⟨k4a, k4b, k4c, k4d, k4e⟩ := K4.out.cell
      try clear k4f
      have k4f := K4.out.frozen
      try clear k5a k5b k5c k5d k5z
      have k5z := K5.out.lt
      obtain ⟨k5a, k5b, k5c, k5d⟩ := K5.out.cell
      try clear k5f
      have k5f := K5.out.frozen
      try clear k7a k7b k7c k7d k7z
      have k7z := K7.out.lt
      obtain ⟨k7a, k7b, k7c, k7d⟩ := K7.out.cell
      try clear k2a k2b k2c k2d k2e k2z
      have k2z := K2.out.lt
      obtain ⟨k2a, k2b, k2c, k2d, k2e⟩ := K2.out.cell
      try clear k8a k8b k8c k8d k8e k8z
      have k8z := K8.out.lt
      obtain ⟨k8a, k8b, k8c, k8d, k8e⟩ := K8.out.cell
      clear b
      have Gg8 := Lib.hid K8.out.lt
      have HG8 := Lib.hid (show w.heap.size + 1 + 1 + 1 + 1 ≤ g8 by have := HZ2.out; have := HGg8.out; omega)
      have HG3 := Lib.hid (HG.out.top (show w2.heap.size ≤ w3.heap.size by have := K8.out.lt; have := HGg8.out; omega))
      go_wp2_with fail
      go_loopw [9] (fun i wr => ∃ (k a : Nat) (L : List Cd) (SC WR : List Int) (p2 ps2 pw2 : Option Addr) (c2 cs2 cw2 : Nat) (y : Cd), k ≤ m ∧ i = .int .i64 k ∧ CN k = y ∧ Hid (RG k = ⟨s, a, L, SC, WR⟩) ∧ Hid (GBox wr g8 ⟨33, s, a, .slice p2 L.length c2, .slice ps2 SC.length cs2, .slice pw2 WR.length cw2⟩) ∧ Hid (OwnG wr (w.heap.size + 1 + 1 + 1 + 1) wr.heap.size (.slice p2 L.length c2) (.slice ps2 SC.length cs2) (.slice pw2 WR.length cw2) L SC WR) ∧ Hid (Below w.heap.size w wr) ∧ Hid (GBox wr (w.heap.size + 1) ⟨33, 0, 0, .slice none 0 0, .slice none 0 0, .slice none 0 0⟩) ∧ Hid (Box wr (w.heap.size + 1 + 1) ⟨0, 0, 0, 0⟩) ∧ Hid (Box wr (w.heap.size + 1 + 1 + 1) y)) (fun i _ => m - (intOf i).toNat)
      case atStart => exact ⟨0, a0, l, sc, wt, p1, ps1, pw1, c1, cs1, cw1, _, Nat.zero_le _, rfl, HC0.out, HG0, K8, HG3, HB, K4, K5, K7⟩
      case round =>
        clear K2 K4 K5 K7 K8 HR HB HG HG3 HCp HC
        obtain ⟨k, a, L, SC, WR, p2, ps2, pw2, c2, cs2, cw2, y, hk, rfl, hy, HGe, K8, HG, HB, K4, K5, K7⟩ := hrel
        have HYe := Lib.hid hy
        obtain ⟨ya, yb, yc, yd⟩ := y
        have hya : ya = 0 := by have h := HCa.out k; rw [HYe.out] at h; exact h
        subst hya
        have hyb := HCb.out k
        have hys := HCs.out k
        rw [hy] at hyb hys
        simp only at hyb hys
        clear hy
        obtain ⟨k8a, k8b, k8c, k8d, k8e⟩ := K8.out.cell
        have k8z := K8.out.lt
        have k8f := K8.out.frozen
        have m0 : (0 : Int) ≤ (k : Int) := by omega
        have HR := Lib.hid (OwnG.rd HG.out)
        by_cases hlt : k < m
        · have m1 : (k : Int) < (m : Int) := by omega
          have m2 : (k : Int) ≤ (k0 : Int) := by omega
          have hok := HOk.out k
          rw [HGe.out] at hok
          obtain ⟨b', o', x, hq, hb, hx, d0, d1, d2, d3⟩ := HRc0.out.card_in HB.out (k := k) (by rw [HM.out]; exact hlt)
          subst hq
          have hst := HSt.out k x hx
          have hka := HKa.out k x hx
          rw [HGe.out] at hst hka
          have HX := Lib.hid (List.mem_iff_getElem?.2 ⟨k, hx⟩)
          have HMk := Lib.hid (fun w h => spec_mk s a L SC WR x p2 ps2 pw2 L.length c2 SC.length cs2 WR.length cw2 w hok rfl rfl rfl (Own.nil0 HG.out.o1) h (HCw.out x HX.out))
          have hok1 := HOk.out (k + 1)
          have hse1 := HSe.out (k + 1)
          rw [← hst] at HMk
          rw [← hka] at HMk
          have hkb := HKb.out k
          obtain ⟨kd, hkd⟩ : ∃ kd, RK k = kd := ⟨_, rfl⟩
          rw [hkd] at hkb hys
          obtain ⟨G2, hG2⟩ : ∃ G2, RG (k + 1) = G2 := ⟨_, rfl⟩
          rw [hkd, hG2] at HMk
          rw [hG2] at hok1 hse1
          obtain ⟨s2, x2, L2, SC2, WR2⟩ := G2
          have hs2 : s = s2 := hse1.symm
          subst hs2
          obtain ⟨a2, rfl⟩ : ∃ a2 : Nat, x2 = (a2 : Int) := ⟨x2.toNat, by have h : 0 ≤ x2 := hok1.d.2.1.1; omega⟩
          simp only at HMk
          have HGe2 := Lib.hid hG2
          have HYs := Lib.hid hys
          have HYb := Lib.hid hyb
          have HKd := Lib.hid hkb
          clear hok hok1 hse1 hst hka hx hkd hG2 HX hys hyb hkb
          go_upto_region 8 with fail
          refine region_game [(true, 0), (true, 1), (true, 2), (true, 3), (true, 4), (false, 5), (true, 6), (true, 7), (true, 8)] 9 10 10 [(11, 11, 39)] _ _ 38 (by kernel_rfl) rfl rfl (by kernel_rfl) rfl rfl rfl rfl rfl rfl rfl rfl (by decide) (of_decide_eq_true rfl) ?_
          refine chain_load 32 rfl rfl rfl 33 _ rfl rfl #[.int .i64 s, .int .i64 a, .slice p2 L.length c2, .slice ps2 SC.length cs2, .slice pw2 WR.length cw2] (fun w h => GBox.below K8.out h) Try.underlying33 rfl (by kernel_rfl) ?_
          refine chain_pure 33 (v := .slice (some ⟨b', o', none⟩) m k0) rfl rfl rfl (fun w => by kernel_rfl) ?_
          refine chain_pure 34 (v := .int .i64 k) rfl rfl rfl (fun w => by kernel_rfl) ?_
          refine chain_pure 35 (v := .pointer (some ⟨b', o' + k * 4, none⟩)) rfl rfl rfl (exec_indexCl (n := m) (cp := k0) hlt rfl (by kernel_rfl) (by kernel_rfl)) ?_
          refine chain_claim 36 rfl rfl rfl (.tmp 35) rfl (by kernel_rfl) x (fun w' h => ⟨(Below.cell h (p := ⟨b', _, none⟩) (show b' < wr.heap.size by have := HB.out.size; omega)).trans d0, (Below.cell h (p := ⟨b', _, none⟩) (show b' < wr.heap.size by have := HB.out.size; omega)).trans d1, (Below.cell h (p := ⟨b', _, none⟩) (show b' < wr.heap.size by have := HB.out.size; omega)).trans d2, (Below.cell h (p := ⟨b', _, none⟩) (show b' < wr.heap.size by have := HB.out.size; omega)).trans d3⟩) ?_
          refine chain_callE 37 rfl rfl rfl (fun w => by kernel_rfl) (fun wy hy => (HMk.out wy (RdG.below HR.out hy)).mono ?_)
          rintro e wz ⟨vl, vs, vw, rfl, og, b⟩
          obtain ⟨p3, c3, ps3, cs3, pw3, cw3, rfl, rfl, rfl, -⟩ := og.form
          have hCz : ∃ C, wz.heap.size = C := ⟨_, rfl⟩
          obtain ⟨C, hC⟩ := hCz
          have HCC := Lib.hid (show wr.heap.size ≤ C by rw [← hC]; exact Nat.le_trans (Below.size hy) b.size)
          rw [hC] at og
          refine ⟨_, rfl, b, fun w' => BI wr w' ∧ OwnG w' wr.heap.size C (.slice p3 L2.length c3) (.slice ps3 SC2.length cs3) (.slice pw3 WR2.length cw3) L2 SC2 WR2 ∧ C ≤ w'.heap.size, ⟨fun _ h => h.1, fun _ h => h.1.size, fun _ h => ⟨Below.alloc h.1 h.1.size _, OwnG.alloc h.2.1 _, Nat.le_trans h.2.2 (by simp)⟩⟩, ⟨BI.next hy b, OwnG.base og (Below.size hy), Nat.le_of_eq hC.symm⟩, ?_⟩
          clear b hy og hC
          refine chain_pure 31 (v := .tuple #[gval s a2 (.slice p3 L2.length c3) (.slice ps3 SC2.length cs3) (.slice pw3 WR2.length cw3), .int .i64 kd]) rfl rfl rfl (fun w => by kernel_rfl) ?_
          refine chain_pure 38 (v := gval s a2 (.slice p3 L2.length c3) (.slice ps3 SC2.length cs3) (.slice pw3 WR2.length cw3)) rfl rfl rfl (fun w => by kernel_rfl) ?_
          refine chain_pure 39 (v := .int .i64 kd) rfl rfl rfl (fun w => by kernel_rfl) ?_
          refine ⟨s, a2, .slice p3 L2.length c3, .slice ps3 SC2.length cs3, .slice pw3 WR2.length cw3, by kernel_rfl, rfl, rfl, rfl, by kernel_rfl, ?_⟩
          intro wq w5 g7 hI hg hb hG hD
          refine ⟨_, ⟨.int .i64 kd, by kernel_rfl, rfl⟩, ?_⟩
          simp only [Act.put, List.setIfInBounds_toArray, List.set_cons_zero, List.set_cons_succ]
          have b : Below wr.heap.size wr w5 := Below.grown hI.1 hG hI.1.size (fun k hk => by injection hk with hk; omega)
          have HG5 := Lib.hid ((OwnG.off hI.2.1 hG (offG hI.2.1 hb rfl)).top (Nat.le_trans hI.2.2 hG.size))
          have K75 := Lib.hid hD
          have K85 := Lib.hid (K8.out.below b)
          have K45 := Lib.hid (K4.out.below b)
          have K55 := Lib.hid (K5.out.below b)
          have K77 := Lib.hid (K7.out.below b)
          have HB5 := Lib.hid (HB.out.trans (b.mono HB.out.size))
          have HZr := Lib.hid (show w.heap.size + 1 + 1 + 1 + 1 ≤ wr.heap.size from K7.out.lt)
          have HG7 := Lib.hid hg
          clear hI hg hb hG hD b K8 K4 K5 K7 HR HB HG k8a k8b k8c k8d k8e k8z k8f d0 d1 d2 d3
          unfold ptr
          have hzr := HZr.out
          have h8a := HG8.out
          have hne1 : ¬ (w.heap.size + 1 + 1 + 1 = g8) := by omega
          have hne2 : ¬ (g8 = w.heap.size + 1 + 1 + 1) := by omega
          have h8z : g8 < w5.heap.size := K85.out.lt
          obtain ⟨k7a, k7b, k7c, k7d, k7e⟩ := K75.out.cell
          have k7z := K75.out.lt
          have k8f := K85.out.frozen
          obtain ⟨k8a, k8b, k8c, k8d, k8e⟩ := K85.out.cell
          have kmf := K77.out.frozen
          obtain ⟨kma, kmb, kmc, kmd⟩ := K77.out.cell
          have kmz := K77.out.lt
          obtain ⟨y0, y1, y2, y3, y4, y5⟩ := HYb.out
          have y6 : (k : Int) ≤ 60 := by omega
          have hds := game_sets K85.out s a2 (.slice p3 L2.length c3) (.slice ps3 SC2.length cs3) (.slice pw3 WR2.length cw3)
          have HG6 := Lib.hid ((HG5.out.off hds.2 (offG HG5.out K85.out rfl)).top hds.2.size)
          have K46 := GBox.grown K45.out hds.2 (by omega)
          have K56 := Box.grownJ K55.out hds.2 (by omega)
          have K76 := Box.grownJ K77.out hds.2 (by omega)
          have HB6 := game.Below.by_ HB5.out hds.2 HB5.out.size (by omega)
          have hkd := HKd.out
          rcases hkd with rfl | rfl | rfl
          · have HYn : Hid (CN (k + 1) = ⟨0, yb + 1, yc, yd⟩) := Lib.hid (by rw [HYs.out]; simp)
            have K87 := Lib.hid (GBox.grown hds.1 (gb_cell (((((w5.setCell ⟨g8, 0, none⟩ (.int .i64 s)).setCell ⟨g8, 1, none⟩ (.int .i64 a2)).setCell ⟨g8, 2, none⟩ (.slice p3 L2.length c3)).setCell ⟨g8, 3, none⟩ (.slice ps3 SC2.length cs3)).setCell ⟨g8, 4, none⟩ (.slice pw3 WR2.length cw3)) (w.heap.size + 1 + 1 + 1) 1 (.int .i64 (yb + 1))) (by omega))
            have HG8' := Lib.hid ((HG6.out.far (g := w.heap.size + 1 + 1 + 1) (.inl (by omega)) 1 (.int .i64 (yb + 1))).top (gb_cell (((((w5.setCell ⟨g8, 0, none⟩ (.int .i64 s)).setCell ⟨g8, 1, none⟩ (.int .i64 a2)).setCell ⟨g8, 2, none⟩ (.slice p3 L2.length c3)).setCell ⟨g8, 3, none⟩ (.slice ps3 SC2.length cs3)).setCell ⟨g8, 4, none⟩ (.slice pw3 WR2.length cw3)) (w.heap.size + 1 + 1 + 1) 1 (.int .i64 (yb + 1))).size)
            have HG9 := Lib.hid (HG8'.out.base (show w.heap.size + 1 + 1 + 1 + 1 ≤ wr.heap.size by omega))
            have K47 := Lib.hid (GBox.grown K46 (gb_cell (((((w5.setCell ⟨g8, 0, none⟩ (.int .i64 s)).setCell ⟨g8, 1, none⟩ (.int .i64 a2)).setCell ⟨g8, 2, none⟩ (.slice p3 L2.length c3)).setCell ⟨g8, 3, none⟩ (.slice ps3 SC2.length cs3)).setCell ⟨g8, 4, none⟩ (.slice pw3 WR2.length cw3)) (w.heap.size + 1 + 1 + 1) 1 (.int .i64 (yb + 1))) (by omega))
            have K57 := Lib.hid (Box.grownJ K56 (gb_cell (((((w5.setCell ⟨g8, 0, none⟩ (.int .i64 s)).setCell ⟨g8, 1, none⟩ (.int .i64 a2)).setCell ⟨g8, 2, none⟩ (.slice p3 L2.length c3)).setCell ⟨g8, 3, none⟩ (.slice ps3 SC2.length cs3)).setCell ⟨g8, 4, none⟩ (.slice pw3 WR2.length cw3)) (w.heap.size + 1 + 1 + 1) 1 (.int .i64 (yb + 1))) (by omega))
            have K78 := Lib.hid (BoxJ.set1 K76 (yb + 1))
            have HB7 := Lib.hid (game.Below.by_ HB6 (gb_cell (((((w5.setCell ⟨g8, 0, none⟩ (.int .i64 s)).setCell ⟨g8, 1, none⟩ (.int .i64 a2)).setCell ⟨g8, 2, none⟩ (.slice p3 L2.length c3)).setCell ⟨g8, 3, none⟩ (.slice ps3 SC2.length cs3)).setCell ⟨g8, 4, none⟩ (.slice pw3 WR2.length cw3)) (w.heap.size + 1 + 1 + 1) 1 (.int .i64 (yb + 1))) HB6.size (by omega))
            clear hds HG6 K46 K56 K76 HB6 hzr HG8'
            go_wp2_with fail
            go_roundw
            case rel => exact ⟨k + 1, a2, L2, SC2, WR2, p3, ps3, pw3, c3, cs3, cw3, ⟨0, yb + 1, yc, yd⟩, by omega, by go_num, HYn.out, HGe2, K87, HG9, HB7, K47, K57, K78⟩
            case measure => simp [intOf]; omega
          · have HYn : Hid (CN (k + 1) = ⟨0, yb, yc + 1, yd⟩) := Lib.hid (by rw [HYs.out]; simp)
            have K87 := Lib.hid (GBox.grown hds.1 (gb_cell (((((w5.setCell ⟨g8, 0, none⟩ (.int .i64 s)).setCell ⟨g8, 1, none⟩ (.int .i64 a2)).setCell ⟨g8, 2, none⟩ (.slice p3 L2.length c3)).setCell ⟨g8, 3, none⟩ (.slice ps3 SC2.length cs3)).setCell ⟨g8, 4, none⟩ (.slice pw3 WR2.length cw3)) (w.heap.size + 1 + 1 + 1) 2 (.int .i64 (yc + 1))) (by omega))
            have HG8' := Lib.hid ((HG6.out.far (g := w.heap.size + 1 + 1 + 1) (.inl (by omega)) 2 (.int .i64 (yc + 1))).top (gb_cell (((((w5.setCell ⟨g8, 0, none⟩ (.int .i64 s)).setCell ⟨g8, 1, none⟩ (.int .i64 a2)).setCell ⟨g8, 2, none⟩ (.slice p3 L2.length c3)).setCell ⟨g8, 3, none⟩ (.slice ps3 SC2.length cs3)).setCell ⟨g8, 4, none⟩ (.slice pw3 WR2.length cw3)) (w.heap.size + 1 + 1 + 1) 2 (.int .i64 (yc + 1))).size)
            have HG9 := Lib.hid (HG8'.out.base (show w.heap.size + 1 + 1 + 1 + 1 ≤ wr.heap.size by omega))
            have K47 := Lib.hid (GBox.grown K46 (gb_cell (((((w5.setCell ⟨g8, 0, none⟩ (.int .i64 s)).setCell ⟨g8, 1, none⟩ (.int .i64 a2)).setCell ⟨g8, 2, none⟩ (.slice p3 L2.length c3)).setCell ⟨g8, 3, none⟩ (.slice ps3 SC2.length cs3)).setCell ⟨g8, 4, none⟩ (.slice pw3 WR2.length cw3)) (w.heap.size + 1 + 1 + 1) 2 (.int .i64 (yc + 1))) (by omega))
            have K57 := Lib.hid (Box.grownJ K56 (gb_cell (((((w5.setCell ⟨g8, 0, none⟩ (.int .i64 s)).setCell ⟨g8, 1, none⟩ (.int .i64 a2)).setCell ⟨g8, 2, none⟩ (.slice p3 L2.length c3)).setCell ⟨g8, 3, none⟩ (.slice ps3 SC2.length cs3)).setCell ⟨g8, 4, none⟩ (.slice pw3 WR2.length cw3)) (w.heap.size + 1 + 1 + 1) 2 (.int .i64 (yc + 1))) (by omega))
            have K78 := Lib.hid (BoxJ.set2 K76 (yc + 1))
            have HB7 := Lib.hid (game.Below.by_ HB6 (gb_cell (((((w5.setCell ⟨g8, 0, none⟩ (.int .i64 s)).setCell ⟨g8, 1, none⟩ (.int .i64 a2)).setCell ⟨g8, 2, none⟩ (.slice p3 L2.length c3)).setCell ⟨g8, 3, none⟩ (.slice ps3 SC2.length cs3)).setCell ⟨g8, 4, none⟩ (.slice pw3 WR2.length cw3)) (w.heap.size + 1 + 1 + 1) 2 (.int .i64 (yc + 1))) HB6.size (by omega))
            clear hds HG6 K46 K56 K76 HB6 hzr HG8'
            go_wp2_with fail
            go_roundw
            case rel => exact ⟨k + 1, a2, L2, SC2, WR2, p3, ps3, pw3, c3, cs3, cw3, ⟨0, yb, yc + 1, yd⟩, by omega, by go_num, HYn.out, HGe2, K87, HG9, HB7, K47, K57, K78⟩
            case measure => simp [intOf]; omega
          · have HYn : Hid (CN (k + 1) = ⟨0, yb, yc, yd + 1⟩) := Lib.hid (by rw [HYs.out]; simp)
            have K87 := Lib.hid (GBox.grown hds.1 (gb_cell (((((w5.setCell ⟨g8, 0, none⟩ (.int .i64 s)).setCell ⟨g8, 1, none⟩ (.int .i64 a2)).setCell ⟨g8, 2, none⟩ (.slice p3 L2.length c3)).setCell ⟨g8, 3, none⟩ (.slice ps3 SC2.length cs3)).setCell ⟨g8, 4, none⟩ (.slice pw3 WR2.length cw3)) (w.heap.size + 1 + 1 + 1) 3 (.int .i64 (yd + 1))) (by omega))
            have HG8' := Lib.hid ((HG6.out.far (g := w.heap.size + 1 + 1 + 1) (.inl (by omega)) 3 (.int .i64 (yd + 1))).top (gb_cell (((((w5.setCell ⟨g8, 0, none⟩ (.int .i64 s)).setCell ⟨g8, 1, none⟩ (.int .i64 a2)).setCell ⟨g8, 2, none⟩ (.slice p3 L2.length c3)).setCell ⟨g8, 3, none⟩ (.slice ps3 SC2.length cs3)).setCell ⟨g8, 4, none⟩ (.slice pw3 WR2.length cw3)) (w.heap.size + 1 + 1 + 1) 3 (.int .i64 (yd + 1))).size)
            have HG9 := Lib.hid (HG8'.out.base (show w.heap.size + 1 + 1 + 1 + 1 ≤ wr.heap.size by omega))
            have K47 := Lib.hid (GBox.grown K46 (gb_cell (((((w5.setCell ⟨g8, 0, none⟩ (.int .i64 s)).setCell ⟨g8, 1, none⟩ (.int .i64 a2)).setCell ⟨g8, 2, none⟩ (.slice p3 L2.length c3)).setCell ⟨g8, 3, none⟩ (.slice ps3 SC2.length cs3)).setCell ⟨g8, 4, none⟩ (.slice pw3 WR2.length cw3)) (w.heap.size + 1 + 1 + 1) 3 (.int .i64 (yd + 1))) (by omega))
            have K57 := Lib.hid (Box.grownJ K56 (gb_cell (((((w5.setCell ⟨g8, 0, none⟩ (.int .i64 s)).setCell ⟨g8, 1, none⟩ (.int .i64 a2)).setCell ⟨g8, 2, none⟩ (.slice p3 L2.length c3)).setCell ⟨g8, 3, none⟩ (.slice ps3 SC2.length cs3)).setCell ⟨g8, 4, none⟩ (.slice pw3 WR2.length cw3)) (w.heap.size + 1 + 1 + 1) 3 (.int .i64 (yd + 1))) (by omega))
            have K78 := Lib.hid (BoxJ.set3 K76 (yd + 1))
            have HB7 := Lib.hid (game.Below.by_ HB6 (gb_cell (((((w5.setCell ⟨g8, 0, none⟩ (.int .i64 s)).setCell ⟨g8, 1, none⟩ (.int .i64 a2)).setCell ⟨g8, 2, none⟩ (.slice p3 L2.length c3)).setCell ⟨g8, 3, none⟩ (.slice ps3 SC2.length cs3)).setCell ⟨g8, 4, none⟩ (.slice pw3 WR2.length cw3)) (w.heap.size + 1 + 1 + 1) 3 (.int .i64 (yd + 1))) HB6.size (by omega))
            clear hds HG6 K46 K56 K76 HB6 hzr HG8'
            go_wp2_with fail
            go_roundw
            case rel => exact ⟨k + 1, a2, L2, SC2, WR2, p3, ps3, pw3, c3, cs3, cw3, ⟨0, yb, yc, yd + 1⟩, by omega, by go_num, HYn.out, HGe2, K87, HG9, HB7, K47, K57, K78⟩
            case measure => simp [intOf]; omega
        · obtain rfl : m = k := by omega
          have h8a := HG8.out
          go_upto_region 11 with fail
          obtain ⟨k7a, k7b, k7c, k7d⟩ := K7.out.cell
          have k7z := K7.out.lt
          have k4f := K4.out.frozen
          obtain ⟨k4a, k4b, k4c, k4d, k4e⟩ := K4.out.cell
          have k4z := K4.out.lt
          have k5f := K5.out.frozen
          obtain ⟨k5a, k5b, k5c, k5d⟩ := K5.out.cell
          have k5z := K5.out.lt
          go_region
          go_wp2_with fail
          have gs := game_sets K4.out s a (.slice p2 L.length c2) (.slice ps2 SC.length cs2) (.slice pw2 WR.length cw2)
          have h4s := a4_sets (Box.grownJ K5.out gs.2 (by omega)) ⟨0, yb, yc, yd⟩
          simp only at h4s
          have hz := Nat.le_trans gs.2.size h4s.2.size
          refine bodyPost_ret (res_ga4 Try.results8 rfl rfl (GBox.drew (GBox.grown gs.1 h4s.2 (by omega))) (Box.drew h4s.1)) rfl ?_
          have hb := game.Below.by_ (game.Below.by_ HB.out gs.2 HB.out.size (by omega)) h4s.2 (Nat.le_trans HB.out.size gs.2.size) (by omega)
          have hG1 := OwnG.out HG.out (a := w.heap.size + 1) (b := w.heap.size + 1 + 1) (Out.grown gs.2 (fun q e => by injection e with e; omega)) (.inr (by omega))
          have hG2 := OwnG.out hG1 (a := w.heap.size + 1 + 1) (b := w.heap.size + 1 + 1 + 1) (Out.grown h4s.2 (fun q e => by injection e with e; omega)) (.inr (by omega))
          have hG3 := OwnG.base hG2 (show w.heap.size ≤ w.heap.size + 1 + 1 + 1 + 1 by omega)
          have hG4 := OwnG.topDrew hG3 hz
          clear hG1 hG2 hG3
          refine ⟨.slice p2 L.length c2, .slice ps2 SC.length cs2, .slice pw2 WR.length cw2, by rw [HT.out]; simp only [HGe.out, HYe.out]; rfl, ?_, hb.drew⟩
          rw [HT.out]
          simp only [HGe.out]
          exact hG4
    · have HT : Hid (rcR g cl = (gm0, ⟨0, 0, 0, 0⟩, false)) := Lib.hid (by unfold rcR; rw [if_neg (by rw [hm]; exact fun h => hm60 h.2)])
      rw [hok] at HC
      rw [HT.out]
      have m60 : 60 < (m : Int) := by omega
      clear hf hr hrc hok hm HT hm60
      obtain ⟨s, nx, l, sc, wt⟩ := g
      simp only at HR HC K2 K4 K5 K7 HB ⊢
      go_enter Try.func8, Try.ntmps8
      go_upto_region 2 with fail
      generalize ((((w.alloc (Gv.obj ⟨33, s, nx, .slice p n c, .slice ps ns cs, .slice pw nw cw⟩)).alloc (Gv.obj ⟨33, 0, 0, .slice none 0 0, .slice none 0 0, .slice none 0 0⟩)).alloc (.cells #[.int .i64 0, .int .i64 0, .int .i64 0, .int .i64 0] 34)).alloc (.cells #[.int .i64 0, .int .i64 0, .int .i64 0, .int .i64 0] 34)) = W0 at K2 K4 K5 K7 HB HR ⊢
      obtain ⟨k2a, k2b, k2c, k2d, k2e⟩ := K2.out.cell
      have k2z := K2.out.lt
      go_wp2_with fail
      refine ((HC.out _ (by repeat (first | with_reducible exact HR.out | with_reducible apply RdG.drewN | with_reducible apply RdG.drew | with_reducible apply RdG.alloc)))).mono ?_
      rintro e w1 ⟨rfl, b⟩
      have Sw1 := Lib.hid b.size
      have HB := Lib.hid (chain0 (w := w) (by repeat (first | with_reducible exact Below.refl _ _ | with_reducible exact HB.out | with_reducible apply Below.drew | with_reducible apply bdN | with_reducible refine Below.alloc ?_ (by first | exact Nat.le_refl _ | with_reducible exact HB.out.size | omega | (simp; done) | (simp; omega) | (have := HB.out.size; simp at *; omega)) _)) b)
      have HR := Lib.hid (RdG.below (by repeat (first | with_reducible exact HR.out | with_reducible apply RdG.drewN | with_reducible apply RdG.drew | with_reducible apply RdG.alloc)) b)
      have K4 : Hid (GBox _ (w.heap.size + 1) (⟨33, 0, 0, .slice none 0 0, .slice none 0 0, .slice none 0 0⟩)) := Lib.hid (GBox.below (by repeat (first | with_reducible exact K4.out | with_reducible apply GBox.drewN | with_reducible apply GBox.drew | (with_reducible refine GBox.newAt ?_ ?_ <;> first | (simp; done) | rfl) | with_reducible apply GBox.alloc)) b)
      have K5 : Hid (Box _ (w.heap.size + 1 + 1) (⟨0, 0, 0, 0⟩)) := Lib.hid (Box.below (by repeat (first | with_reducible exact K5.out | with_reducible apply Box.drewN | with_reducible apply Box.drew | (with_reducible refine Box.newAt ?_ ?_ <;> first | (simp; done) | rfl) | with_reducible apply Box.alloc)) b)
      have K2 : Hid (GBox _ (w.heap.size) (⟨33, s, nx, .slice p n c, .slice ps ns cs, .slice pw nw cw⟩)) := Lib.hid (GBox.below (by repeat (first | with_reducible exact K2.out | with_reducible apply GBox.drewN | with_reducible apply GBox.drew | (with_reducible refine GBox.newAt ?_ ?_ <;> first | (simp; done) | rfl) | with_reducible apply GBox.alloc)) b)
      have K7 : Hid (Box _ (w.heap.size + 1 + 1 + 1) (⟨0, 0, 0, 0⟩)) := Lib.hid (Box.below (by repeat (first | with_reducible exact K7.out | with_reducible apply Box.drewN | with_reducible apply Box.drew | (with_reducible refine Box.newAt ?_ ?_ <;> first | (simp; done) | rfl) | with_reducible apply Box.alloc)) b)
      try clear k4a k4b k4c k4d k4e k4z
      have k4z := K4.out.lt
      obtain ⟨k4a, k4b, k4c, k4d, k4e⟩ := K4.out.cell
      try clear k4f
      have k4f := K4.out.frozen
      try clear k5a k5b k5c k5d k5z
      have k5z := K5.out.lt
      obtain ⟨k5a, k5b, k5c, k5d⟩ := K5.out.cell
      try clear k5f
      have k5f := K5.out.frozen
      try clear k2a k2b k2c k2d k2e k2z
      have k2z := K2.out.lt
      obtain ⟨k2a, k2b, k2c, k2d, k2e⟩ := K2.out.cell
      try clear k7a k7b k7c k7d k7z
      have k7z := K7.out.lt
      obtain ⟨k7a, k7b, k7c, k7d⟩ := K7.out.cell
      clear b
      go_upto_region 3 with fail
      go_region
      go_wp2_with fail
      have gs := game_sets K4.out 0 0 (.slice none 0 0) (.slice none 0 0) (.slice none 0 0)
      have h4s := a4_sets (Box.grownJ K5.out gs.2 (by omega)) ⟨0, 0, 0, 0⟩
      refine bodyPost_ret (res_ga4 Try.results8 rfl rfl (GBox.drew (GBox.grown gs.1 h4s.2 (by omega))) (Box.drew h4s.1)) rfl ?_
      have hb := game.Below.by_ (game.Below.by_ HB.out gs.2 HB.out.size (by omega)) h4s.2 (Nat.le_trans HB.out.size gs.2.size) (by omega)
      exact ⟨.slice none 0 0, .slice none 0 0, .slice none 0 0, rfl, (OwnG.empty _ _).top (by have := HB.out.size; have := gs.2.size; have := h4s.2.size; simpa [World.setCell] using HB.out.size), hb.drew⟩
end Go.Proofs.Ytjpfjgoebdogjaa.game

/- WorthClaims: a region that draws its order with two calls and a number read out of what each made; the mathematics. -/
namespace Go.Proofs.Ytjpfjgoebdogjaa.game
open Go.RowKit
open cards deal reg
set_option linter.unusedVariables false

section
variable {P : Program} {ops : Array Oper} {Q : Exit → Act → World → Prop} {md : Region.Mode}
/-- A stronger word on the world may be kept from here on. -/
theorem any_strong {S S' : World → Prop} (h : ∀ w, S' w → S w) : ∀ (n : Nat) (l : Array Bool) (a : Act) (w : World), wpAnyH P md ops Q S' n l a w → wpAnyH P md ops Q S n l a w
  | 0, _, _, _, hh => hh
  | n + 1, _, _, _, hh => ⟨hh.1, fun i hi => wpOp_mono (fun a' w' h' => ⟨h _ h'.1, any_strong h n _ _ _ h'.2⟩) (hh.2 i hi)⟩
theorem region_any {id : Nat} {a : Act} {w : World} (S : World → Prop) (N : Nat) (hm : P.follows .mixedOrders = true) (hn : ops.size = N) (h : wpAnyH P .any ops (NoPanic Q) S N (Array.replicate ops.size false) a w.drew) : (Code.region id ops true).wp P Q a w :=
  wp_region_noPanic (wp_region_held hm (S := S) (by rw [← hn] at h; exact h))
theorem take_p (i : Nat) (d : Tmp) {S : World → Prop} {v : Value} {o : Oper} {fuel : Nat} {l : Array Bool} {a : Act} {w : World} (ho : ops[i]? = some o) (hd : o.dst = some d) (hg : o.guard = none) (hs : Region.noSelect ops = true) (hf : Region.free md ops l i = true) (hr : (Region.ready md ops l).contains i = true)
    (he : ∀ w, S w → (execOp a.eval o).run P w = .ok (.value v) w) (hS : S w) (h : wpAnyH P md ops (NoPanic Q) S fuel (l.setIfInBounds i true) (a.put (some d) v) w) : wpAnyH P md ops (NoPanic Q) S (fuel + 1) l a w :=
  wpAnyH_take ho hs hf hr (fun _ _ _ h => h) (.inl ⟨wanted_of hg, he⟩) hS (hd ▸ h)
theorem op_call (i : Nat) (d : Tmp) {o : Oper} {a : Act} {w : World} (ho : ops[i]? = some o) (hd : o.dst = some d) (hg : o.guard = none) {f : FuncId} {args : Array Value} (he : (execOp a.eval o).run P w = .ok (.enter f args) w) {K : Act → World → Prop}
    (hc : Calls P f args w (fun e w' => ∃ v, e = .returned v ∧ K (a.put (some d) v) w')) : wpOp P ops Q i K a w :=
  wpOp_upon ho hg (Upon.enter he hc) (fun v w' h => hd ▸ h)
end
theorem exec_cell {a : Act} {o : Oper} {T : TypeId} {x : Operand} {p : Addr} {v : Value} {w : World} (hop : o.op = .load T x) (hx : a.eval x = .pointer (some p)) (h : (loadVar T p).run Try.prog w = .ok v w) : (execOp a.eval o).run Try.prog w = .ok (.value v) w := by
  unfold execOp
  rw [hop]
  simp only [hx]
  simp [Instr.loadAt, Instr.sureAddr, asAddr, h, Result.andThen]

noncomputable def wcV (g : Gm) (cl : List Cd) (x : Int) : Int := (pts (runG g cl cl.length))[x.toNat]?.getD 0 - (pts g)[x.toNat]?.getD 0
noncomputable def wcR (g : Gm) (cl : List Cd) (x : Int) : Int × Bool := if (g.ok = true ∧ cl.length ≤ 60) ∧ isP g.sc.length x = true then (wcV g cl x, true) else (0, false)
end Go.Proofs.Ytjpfjgoebdogjaa.game

/- WorthClaims: the program's. -/
namespace Go.Proofs.Ytjpfjgoebdogjaa.game
open Go.RowKit
open cards deal reg
set_option linter.unusedVariables false

theorem wc_no {g : Gm} {cl : List Cd} {x : Int} (h : ¬ ((g.ok = true ∧ cl.length ≤ 60) ∧ isP g.sc.length x = true)) : wcR g cl x = (0, false) := if_neg h
theorem wc_yes {g : Gm} {cl : List Cd} {k : Nat} {a b : Int} (h : g.ok = true ∧ cl.length ≤ 60) (hp : isP g.sc.length (k : Int) = true) (ha : (pts (runG g cl cl.length))[k]? = some a) (hb : (pts g)[k]? = some b) : wcR g cl (k : Int) = (a - b, true) := by
  unfold wcR
  rw [if_pos ⟨h, hp⟩]
  unfold wcV
  rw [Int.toNat_natCast, ha, hb]
  rfl

set_option maxRecDepth 100000 in
set_option maxHeartbeats 4000000 in
theorem impl_wc (g : Gm) (cl : List Cd) (x : Int) (q : Option Addr) (k0 : Nat) (p ps pw : Option Addr) (n c ns cs nw cw m : Nat) (w : World) (hf : FitG n c ns cs nw cw p ps pw g) (hr : RdG w p ps pw g.l g.sc g.wr) (hm : cl.length = m) (hk0 : m ≤ k0) (hcw : ∀ x ∈ cl, wfc x) (hrc : Rd w q (flat cl)) :
    Calls Try.prog 24 #[gval g.s g.nx (.slice p n c) (.slice ps ns cs) (.slice pw nw cw), .slice q m k0, .int .i64 x] w fun e w' => e = .returned (.tuple #[.int .i64 (wcR g cl x).1, .bool (wcR g cl x).2]) ∧ Below w.heap.size w w' := by
  have HR := Lib.hid hr
  have HRc := Lib.hid hrc
  have HF := Lib.hid hf
  have HC := Lib.hid (fun w h => can_run g p ps pw q n c ns cs nw cw m k0 w hf h)
  have HIp := Lib.hid (fun w => is_player g.s g.nx x p ps pw n c ns cs nw cw w)
  by_cases hok : g.ok = true ∧ m ≤ 60
  · have ho := Gm.ok_iff.1 hok.1
    have hm60 := hok.2
    have hb : (decide (m ≤ 60) && g.ok) = true := by rw [hok.1, decide_eq_true hok.2]; rfl
    rw [hb] at HC
    cases hp : isP ns x
    · have HT := Lib.hid (wc_no (g := g) (cl := cl) (x := x) (by rw [HF.out.hs, hp]; simp))
      rw [hp] at HIp
      rw [HT.out]
      clear hf hr hrc hok hb hm hp HT ho
      obtain ⟨s, nx, l, sc, wt⟩ := g
      simp only at HR HC HIp ⊢
      go_enter Try.func24, Try.ntmps24
      go_wp2_with fail
      refine ((HC.out _ (by repeat (first | with_reducible exact HR.out | with_reducible apply RdG.drewN | with_reducible apply RdG.drew | with_reducible apply RdG.alloc)))).mono ?_
      rintro e w1 ⟨rfl, b⟩
      have Sw1 := Lib.hid b.size
      have HB := Lib.hid (chain0 (w := w) (by repeat (first | with_reducible exact Below.refl _ _ | with_reducible exact HB.out | with_reducible apply Below.drew | with_reducible apply bdN | with_reducible refine Below.alloc ?_ (by first | exact Nat.le_refl _ | with_reducible exact HB.out.size | omega | (simp; done) | (simp; omega) | (have := HB.out.size; simp at *; omega)) _)) b)
      have HR := Lib.hid (RdG.below (by repeat (first | with_reducible exact HR.out | with_reducible apply RdG.drewN | with_reducible apply RdG.drew | with_reducible apply RdG.alloc)) b)
      have K2 : Hid (GBox _ (w.heap.size) (⟨33, s, nx, .slice p n c, .slice ps ns cs, .slice pw nw cw⟩)) := Lib.hid (GBox.below (by repeat (first | with_reducible exact K2.out | with_reducible apply GBox.drewN | with_reducible apply GBox.drew | (with_reducible refine GBox.newAt ?_ ?_ <;> first | (simp; done) | rfl) | with_reducible apply GBox.alloc)) b)
      try clear k2a k2b k2c k2d k2e k2z
      have k2z := K2.out.lt
      obtain ⟨k2a, k2b, k2c, k2d, k2e⟩ := K2.out.cell
      clear b
      go_wp2_with fail
      refine ((HIp.out _)).mono ?_
      rintro e w2 ⟨rfl, b⟩
      have Sw2 := Lib.hid b.size
      have HB := Lib.hid (chain0 (w := w) (by repeat (first | with_reducible exact Below.refl _ _ | with_reducible exact HB.out | with_reducible apply Below.drew | with_reducible apply bdN | with_reducible refine Below.alloc ?_ (by first | exact Nat.le_refl _ | with_reducible exact HB.out.size | omega | (simp; done) | (simp; omega) | (have := HB.out.size; simp at *; omega)) _)) b)
      have HR := Lib.hid (RdG.below (by repeat (first | with_reducible exact HR.out | with_reducible apply RdG.drewN | with_reducible apply RdG.drew | with_reducible apply RdG.alloc)) b)
      have K2 : Hid (GBox _ (w.heap.size) (⟨33, s, nx, .slice p n c, .slice ps ns cs, .slice pw nw cw⟩)) := Lib.hid (GBox.below (by repeat (first | with_reducible exact K2.out | with_reducible apply GBox.drewN | with_reducible apply GBox.drew | (with_reducible refine GBox.newAt ?_ ?_ <;> first | (simp; done) | rfl) | with_reducible apply GBox.alloc)) b)
      try clear k2a k2b k2c k2d k2e k2z
      have k2z := K2.out.lt
      obtain ⟨k2a, k2b, k2c, k2d, k2e⟩ := K2.out.cell
      clear b
      go_wp2_with fail
      go_ret2
      exact ⟨rfl, by repeat (first | with_reducible exact Below.refl _ _ | with_reducible exact HB.out | with_reducible apply Below.drew | with_reducible apply bdN | with_reducible refine Below.alloc ?_ (by first | exact Nat.le_refl _ | with_reducible exact HB.out.size | omega | (simp; done) | (simp; omega) | (have := HB.out.size; simp at *; omega)) _)⟩
    · have hp2 := hp
      unfold isP at hp2
      have hp3 := of_decide_eq_true hp2
      obtain ⟨k, rfl⟩ : ∃ k : Nat, x = (k : Int) := ⟨x.toNat, by omega⟩
      obtain rfl : nw = ns := by rw [← HF.out.hw, ← HF.out.hs]; exact ho.eq
      have hk : k < nw := by omega
      have hn4 : nw ≤ 4 := by have := ho.p4; have := HF.out.hs; omega
      have ho2 := runG_ok (cl := cl) ho m
      have HSl := Lib.hid ((runG_sc (g := g) (cl := cl) m).trans HF.out.hs)
      have HWl := Lib.hid (ho2.eq.trans HSl.out)
      have HPl := (pts_len ho.eq).trans HF.out.hs
      have HPl2 := (pts_len ho2.eq).trans HSl.out
      obtain ⟨px, hpx⟩ : ∃ px, (pts g)[k]? = some px := ⟨_, List.getElem?_eq_getElem (by rw [HPl]; exact hk)⟩
      obtain ⟨py, hpy⟩ : ∃ py, (pts (runG g cl m))[k]? = some py := ⟨_, List.getElem?_eq_getElem (by rw [HPl2]; exact hk)⟩
      obtain ⟨px0, px1⟩ := pts_bd ho hpx
      obtain ⟨py0, py1⟩ := pts_bd ho2 hpy
      have HT := Lib.hid (wc_yes (g := g) (cl := cl) (k := k) (a := py) (b := px) ⟨hok.1, by rw [hm]; exact hm60⟩ (by rw [HF.out.hs]; exact hp) (by rw [hm]; exact hpy) hpx)
      rw [hp] at HIp
      rw [HT.out]
      have HP := Lib.hid (fun w h => player_points g p ps pw n c nw cs cw w HF.out.hs HF.out.hw (by omega) ho.ts ho.tw h)
      have HP2 := Lib.hid (fun p ps pw n c cs cw w h => player_points (runG g cl m) p ps pw n c nw cs cw w HSl.out HWl.out (by omega) ho2.ts ho2.tw h)
      have HSe := runG_s (cl := cl) ho m
      obtain ⟨s, nx, l, sc, wt⟩ := g
      obtain ⟨a0, rfl⟩ : ∃ a0 : Nat, nx = (a0 : Int) := ⟨nx.toNat, by have h : 0 ≤ nx := ho.d.2.1.1; omega⟩
      have HK := Lib.hid (fun w h h2 => impl_rc s a0 l sc wt cl p ps pw q n c nw cs nw cw m k0 w ho hf.hn hf.hs hf.hw hf.z h hm hm60 hk0 h2 hcw)
      obtain ⟨P, hP⟩ : ∃ P, pts ⟨s, a0, l, sc, wt⟩ = P := ⟨_, rfl⟩
      obtain ⟨P2, hP2⟩ : ∃ P2, pts (runG ⟨s, a0, l, sc, wt⟩ cl m) = P2 := ⟨_, rfl⟩
      rw [hP] at HP hpx HPl
      rw [hP2] at HP2 hpy HPl2
      obtain ⟨G, hG⟩ : ∃ G, runG ⟨s, a0, l, sc, wt⟩ cl m = G := ⟨_, rfl⟩
      rw [hG] at HK HP2 HSl HWl HSe
      obtain ⟨s', x', L', SC', WR'⟩ := G
      have hs' : s = s' := HSe.symm
      subst hs'
      have HPx := Lib.hid hpx
      have HPy := Lib.hid hpy
      have HPn := Lib.hid HPl
      have HPm := Lib.hid HPl2
      clear hf hr hrc hok hb hm hG ho ho2 hp hp2 hp3 HT hP hP2 hpx hpy HPl HPl2 HSe
      simp only at HR HC HK HP HP2 HIp HSl HWl ⊢
      go_enter Try.func24, Try.ntmps24
      go_wp2_with fail
      refine ((HC.out _ (by repeat (first | with_reducible exact HR.out | with_reducible apply RdG.drewN | with_reducible apply RdG.drew | with_reducible apply RdG.alloc)))).mono ?_
      rintro e w1 ⟨rfl, b⟩
      have Sw1 := Lib.hid b.size
      have HB := Lib.hid (chain0 (w := w) (by repeat (first | with_reducible exact Below.refl _ _ | with_reducible exact HB.out | with_reducible apply Below.drew | with_reducible apply bdN | with_reducible refine Below.alloc ?_ (by first | exact Nat.le_refl _ | with_reducible exact HB.out.size | omega | (simp; done) | (simp; omega) | (have := HB.out.size; simp at *; omega)) _)) b)
      have HR := Lib.hid (RdG.below (by repeat (first | with_reducible exact HR.out | with_reducible apply RdG.drewN | with_reducible apply RdG.drew | with_reducible apply RdG.alloc)) b)
      have HRc := Lib.hid (Rd.below (by repeat (first | with_reducible exact HRc.out | with_reducible apply Rd.drewN | with_reducible apply Rd.drew | with_reducible apply Rd.alloc)) b)
      have K2 : Hid (GBox _ (w.heap.size) (⟨33, s, a0, .slice p n c, .slice ps nw cs, .slice pw nw cw⟩)) := Lib.hid (GBox.below (by repeat (first | with_reducible exact K2.out | with_reducible apply GBox.drewN | with_reducible apply GBox.drew | (with_reducible refine GBox.newAt ?_ ?_ <;> first | (simp; done) | rfl) | with_reducible apply GBox.alloc)) b)
      try clear k2a k2b k2c k2d k2e k2z
      have k2z := K2.out.lt
      obtain ⟨k2a, k2b, k2c, k2d, k2e⟩ := K2.out.cell
      clear b
      go_wp2_with fail
      refine ((HIp.out _)).mono ?_
      rintro e w2 ⟨rfl, b⟩
      have Sw2 := Lib.hid b.size
      have HB := Lib.hid (chain0 (w := w) (by repeat (first | with_reducible exact Below.refl _ _ | with_reducible exact HB.out | with_reducible apply Below.drew | with_reducible apply bdN | with_reducible refine Below.alloc ?_ (by first | exact Nat.le_refl _ | with_reducible exact HB.out.size | omega | (simp; done) | (simp; omega) | (have := HB.out.size; simp at *; omega)) _)) b)
      have HR := Lib.hid (RdG.below (by repeat (first | with_reducible exact HR.out | with_reducible apply RdG.drewN | with_reducible apply RdG.drew | with_reducible apply RdG.alloc)) b)
      have HRc := Lib.hid (Rd.below (by repeat (first | with_reducible exact HRc.out | with_reducible apply Rd.drewN | with_reducible apply Rd.drew | with_reducible apply Rd.alloc)) b)
      have K2 : Hid (GBox _ (w.heap.size) (⟨33, s, a0, .slice p n c, .slice ps nw cs, .slice pw nw cw⟩)) := Lib.hid (GBox.below (by repeat (first | with_reducible exact K2.out | with_reducible apply GBox.drewN | with_reducible apply GBox.drew | (with_reducible refine GBox.newAt ?_ ?_ <;> first | (simp; done) | rfl) | with_reducible apply GBox.alloc)) b)
      try clear k2a k2b k2c k2d k2e k2z
      have k2z := K2.out.lt
      obtain ⟨k2a, k2b, k2c, k2d, k2e⟩ := K2.out.cell
      clear b
      go_wp2_with fail
      refine (HK.out _ (by repeat (first | with_reducible exact HR.out | with_reducible apply RdG.drewN | with_reducible apply RdG.drew | with_reducible apply RdG.alloc)) (by repeat (first | with_reducible exact HRc.out | with_reducible apply Rd.drewN | with_reducible apply Rd.drew | with_reducible apply Rd.alloc))).mono ?_
      rintro e w3 ⟨vl, vs, vw, vk, rfl, hg, hi, b⟩
      obtain ⟨p2, c2, ps2, cs2, pw2, cw2, rfl, rfl, rfl, hrg, -⟩ := hg.form
      obtain ⟨pk, ck, rfl, -, -, -⟩ := hi.form
      rw [HSl.out, HWl.out]
      have Sw3 := Lib.hid b.size
      have HB := Lib.hid (chain0 (w := w) (by repeat (first | with_reducible exact Below.refl _ _ | with_reducible exact HB.out | with_reducible apply Below.drew | with_reducible apply bdN | with_reducible refine Below.alloc ?_ (by first | exact Nat.le_refl _ | with_reducible exact HB.out.size | omega | (simp; done) | (simp; omega) | (have := HB.out.size; simp at *; omega)) _)) b)
      have HR := Lib.hid (RdG.below (by repeat (first | with_reducible exact HR.out | with_reducible apply RdG.drewN | with_reducible apply RdG.drew | with_reducible apply RdG.alloc)) b)
      have HRc := Lib.hid (Rd.below (by repeat (first | with_reducible exact HRc.out | with_reducible apply Rd.drewN | with_reducible apply Rd.drew | with_reducible apply Rd.alloc)) b)
      have K2 : Hid (GBox _ (w.heap.size) (⟨33, s, a0, .slice p n c, .slice ps nw cs, .slice pw nw cw⟩)) := Lib.hid (GBox.below (by repeat (first | with_reducible exact K2.out | with_reducible apply GBox.drewN | with_reducible apply GBox.drew | (with_reducible refine GBox.newAt ?_ ?_ <;> first | (simp; done) | rfl) | with_reducible apply GBox.alloc)) b)
      try clear k2a k2b k2c k2d k2e k2z
      have k2z := K2.out.lt
      obtain ⟨k2a, k2b, k2c, k2d, k2e⟩ := K2.out.cell
      clear b
      have HRg := Lib.hid hrg
      clear hg hi hrg
      go_upto_region 4 with fail
      have K8 : Hid (GBox (w3.alloc (Gv.obj (⟨33, s, x', .slice p2 L'.length c2, .slice ps2 nw cs2, .slice pw2 nw cw2⟩))) w3.heap.size (⟨33, s, x', .slice p2 L'.length c2, .slice ps2 nw cs2, .slice pw2 nw cw2⟩)) := Lib.hid (GBox.newAt rfl rfl)
      obtain ⟨g8, hg⟩ : ∃ g8, w3.heap.size = g8 := ⟨_, rfl⟩
      have HGg8 := Lib.hid hg
      rw [hg] at K8
      try rw [hg]
      clear hg
      obtain ⟨w4, ew, b⟩ : ∃ wOPN : World, wOPN = (w3.alloc (Gv.obj (⟨33, s, x', .slice p2 L'.length c2, .slice ps2 nw cs2, .slice pw2 nw cw2⟩))) ∧ Below ((w3.alloc (Gv.obj (⟨33, s, x', .slice p2 L'.length c2, .slice ps2 nw cs2, .slice pw2 nw cw2⟩)))).heap.size ((w3.alloc (Gv.obj (⟨33, s, x', .slice p2 L'.length c2, .slice ps2 nw cs2, .slice pw2 nw cw2⟩)))) wOPN := ⟨_, rfl, Below.refl _ _⟩
      rw [← ew]
      clear ew
      have Sw4 := Lib.hid b.size
      have HB := Lib.hid (chain0 (w := w) (by repeat (first | with_reducible exact Below.refl _ _ | with_reducible exact HB.out | with_reducible apply Below.drew | with_reducible apply bdN | with_reducible refine Below.alloc ?_ (by first | exact Nat.le_refl _ | with_reducible exact HB.out.size | omega | (simp; done) | (simp; omega) | (have := HB.out.size; simp at *; omega)) _)) b)
      have HR := Lib.hid (RdG.below (by repeat (first | with_reducible exact HR.out | with_reducible apply RdG.drewN | with_reducible apply RdG.drew | with_reducible apply RdG.alloc)) b)
      have HRc := Lib.hid (Rd.below (by repeat (first | with_reducible exact HRc.out | with_reducible apply Rd.drewN | with_reducible apply Rd.drew | with_reducible apply Rd.alloc)) b)
      have HRg := Lib.hid (RdG.below (by repeat (first | with_reducible exact HRg.out | with_reducible apply RdG.drewN | with_reducible apply RdG.drew | with_reducible apply RdG.alloc)) b)
      have K2 : Hid (GBox _ (w.heap.size) (⟨33, s, a0, .slice p n c, .slice ps nw cs, .slice pw nw cw⟩)) := Lib.hid (GBox.below (by repeat (first | with_reducible exact K2.out | with_reducible apply GBox.drewN | with_reducible apply GBox.drew | (with_reducible refine GBox.newAt ?_ ?_ <;> first | (simp; done) | rfl) | with_reducible apply GBox.alloc)) b)
      have K8 : Hid (GBox _ (g8) (⟨33, s, x', .slice p2 L'.length c2, .slice ps2 nw cs2, .slice pw2 nw cw2⟩)) := Lib.hid (GBox.below (by repeat (first | with_reducible exact K8.out | with_reducible apply GBox.drewN | with_reducible apply GBox.drew | (with_reducible refine GBox.newAt ?_ ?_ <;> first | (simp; done) | rfl) | with_reducible apply GBox.alloc)) b)
      try clear k2a k2b k2c k2d k2e k2z
      have k2z := K2.out.lt
      obtain ⟨k2a, k2b, k2c, k2d, k2e⟩ := K2.out.cell
      try clear k8a k8b k8c k8d k8e k8z
      have k8z := K8.out.lt
      obtain ⟨k8a, k8b, k8c, k8d, k8e⟩ := K8.out.cell
      clear b
      have Gg8 := Lib.hid K8.out.lt
      have hz4 := HB.out.size
      refine region_any (BI w4) 13 (by kernel_rfl) rfl ?_
      refine take_p 0 26 (v := gval s x' (.slice p2 L'.length c2) (.slice ps2 nw cs2) (.slice pw2 nw cw2)) rfl rfl rfl (by kernel_rfl) (by kernel_rfl) (by kernel_rfl) (fun w' h => exec_cell rfl (by kernel_rfl) (load_game (K8.out.below h))) (BI.start w4) ?_
      refine take_p 2 28 (v := .int .i64 k) rfl rfl rfl (by kernel_rfl) (by kernel_rfl) (by kernel_rfl) (fun w' h => by kernel_rfl) (BI.start w4) ?_
      refine take_p 5 31 (v := gval s a0 (.slice p n c) (.slice ps nw cs) (.slice pw nw cw)) rfl rfl rfl (by kernel_rfl) (by kernel_rfl) (by kernel_rfl) (fun w' h => exec_cell rfl (by kernel_rfl) (load_game (K2.out.below h))) (BI.start w4) ?_
      refine take_p 7 33 (v := .int .i64 k) rfl rfl rfl (by kernel_rfl) (by kernel_rfl) (by kernel_rfl) (fun w' h => by kernel_rfl) (BI.start w4) ?_
      refine wpAnyH_all (rs := [1]) (by kernel_rfl) (by decide) (fun j hj => ?_)
      obtain rfl : j = 1 := by simpa using hj
      · refine op_call 1 27 rfl rfl rfl (f := 42) (args := #[gval s x' (.slice p2 L'.length c2) (.slice ps2 nw cs2) (.slice pw2 nw cw2)]) (by kernel_rfl) ?_
        refine (HP2.out p2 ps2 pw2 L'.length c2 cs2 cw2 _ (HRg.out.drew)).mono ?_
        rintro e w5 ⟨v, rfl, hv, b5⟩
        obtain ⟨pv, cv, rfl, hcv, hrv, _⟩ := hv.form
        have B5 : BI w4 w5 := BI.next (BI.start w4) b5
        refine ⟨_, rfl, B5, any_strong (S' := BI w5) (fun w' h => BI.next B5 h) _ _ _ _ ?_⟩
        obtain ⟨b1, o1, y1, rfl, hb1, hy1, c1⟩ := hrv.int (k := k) (by rw [HPm.out]; exact hk)
        obtain rfl : y1 = py := by have h := HPy.out; rw [h] at hy1; injection hy1 with hy1; exact hy1.symm
        refine take_p 3 29 (v := .pointer (some ⟨b1, o1 + k, none⟩)) rfl rfl rfl (by kernel_rfl) (by kernel_rfl) (by kernel_rfl) (fun w' h => exec_indexI (n := P2.length) (cp := cv) (by rw [HPm.out]; exact hk) rfl (by kernel_rfl) (by kernel_rfl) w') (Below.refl _ _) ?_
        refine take_p 4 30 (v := .int .i64 y1) rfl rfl rfl (by kernel_rfl) (by kernel_rfl) (by kernel_rfl) (fun w' h => exec_cell rfl (by kernel_rfl) (load_int ((Below.cell (p := ⟨b1, o1 + k, none⟩) h hb1).trans c1))) (Below.refl _ _) ?_
        refine wpAnyH_all (rs := [6]) (by kernel_rfl) (by decide) (fun j hj => ?_)
        obtain rfl : j = 6 := by simpa using hj
        refine op_call 6 32 rfl rfl rfl (f := 42) (args := #[gval s a0 (.slice p n c) (.slice ps nw cs) (.slice pw nw cw)]) (by kernel_rfl) ?_
        refine (HP.out _ (RdG.below HR.out B5)).mono ?_
        rintro e w6 ⟨v, rfl, hv6, b6⟩
        obtain ⟨pu, cu, rfl, hcu, hru, _⟩ := hv6.form
        refine ⟨_, rfl, b6, any_strong (S' := BI w6) (fun w' h => BI.next b6 h) _ _ _ _ ?_⟩
        obtain ⟨b2, o2, y2, rfl, hb2, hy2, d1⟩ := hru.int (k := k) (by rw [HPn.out]; exact hk)
        obtain rfl : y2 = px := by have h := HPx.out; rw [h] at hy2; injection hy2 with hy2; exact hy2.symm
        refine take_p 8 34 (v := .pointer (some ⟨b2, o2 + k, none⟩)) rfl rfl rfl (by kernel_rfl) (by kernel_rfl) (by kernel_rfl) (fun w' h => exec_indexI (n := P.length) (cp := cu) (by rw [HPn.out]; exact hk) rfl (by kernel_rfl) (by kernel_rfl) w') (Below.refl _ _) ?_
        refine take_p 9 35 (v := .int .i64 y2) rfl rfl rfl (by kernel_rfl) (by kernel_rfl) (by kernel_rfl) (fun w' h => exec_cell rfl (by kernel_rfl) (load_int ((Below.cell (p := ⟨b2, o2 + k, none⟩) h hb2).trans d1))) (Below.refl _ _) ?_
        refine seq_of [10, 11, 12] _ _ _ (by kernel_rfl) (Below.refl _ _) ⟨_, w6, .int .i64 (y1 - y2), rfl, rfl, .inl (exec_subI (x := y1) (y := y2) (by omega) (by omega) rfl (by kernel_rfl) (by kernel_rfl) w6), Below.refl _ _, _, w6, .int .i64 (y1 - y2), rfl, rfl, .inl (by kernel_rfl), Below.refl _ _, _, w6, .bool true, rfl, rfl, .inl (by kernel_rfl), Below.refl _ _, NoPanic.normal ?_⟩
        have HBf : Hid (Below w.heap.size w w6) := Lib.hid (HB.out.trans ((BI.next B5 b6 : Below w4.heap.size w4 w6).mono hz4))
        clear hru hrv hv hv6 b5 b6 B5 c1 d1
        simp only [Act.put, List.setIfInBounds_toArray, List.set_cons_zero, List.set_cons_succ]
        go_wp2_with fail
        go_ret2
        exact ⟨rfl, HBf.out⟩
  · have hb : (decide (m ≤ 60) && g.ok) = false := by
      cases h1 : decide (m ≤ 60)
      · rfl
      · cases h2 : g.ok
        · rfl
        · exact absurd ⟨h2, of_decide_eq_true h1⟩ hok
    rw [hb] at HC
    have HT := Lib.hid (wc_no (g := g) (cl := cl) (x := x) (by rw [hm]; exact fun h => hok h.1))
    rw [HT.out]
    clear hf hr hrc hok hb hm HT
    obtain ⟨s, nx, l, sc, wt⟩ := g
    simp only at HR HC ⊢
    go_enter Try.func24, Try.ntmps24
    go_wp2_with fail
    refine ((HC.out _ (by repeat (first | with_reducible exact HR.out | with_reducible apply RdG.drewN | with_reducible apply RdG.drew | with_reducible apply RdG.alloc)))).mono ?_
    rintro e w1 ⟨rfl, b⟩
    have Sw1 := Lib.hid b.size
    have HB := Lib.hid (chain0 (w := w) (by repeat (first | with_reducible exact Below.refl _ _ | with_reducible exact HB.out | with_reducible apply Below.drew | with_reducible apply bdN | with_reducible refine Below.alloc ?_ (by first | exact Nat.le_refl _ | with_reducible exact HB.out.size | omega | (simp; done) | (simp; omega) | (have := HB.out.size; simp at *; omega)) _)) b)
    have HR := Lib.hid (RdG.below (by repeat (first | with_reducible exact HR.out | with_reducible apply RdG.drewN | with_reducible apply RdG.drew | with_reducible apply RdG.alloc)) b)
    have K2 : Hid (GBox _ (w.heap.size) (⟨33, s, nx, .slice p n c, .slice ps ns cs, .slice pw nw cw⟩)) := Lib.hid (GBox.below (by repeat (first | with_reducible exact K2.out | with_reducible apply GBox.drewN | with_reducible apply GBox.drew | (with_reducible refine GBox.newAt ?_ ?_ <;> first | (simp; done) | rfl) | with_reducible apply GBox.alloc)) b)
    try clear k2a k2b k2c k2d k2e k2z
    have k2z := K2.out.lt
    obtain ⟨k2a, k2b, k2c, k2d, k2e⟩ := K2.out.cell
    clear b
    go_wp2_with fail
    go_ret2
    exact ⟨rfl, by repeat (first | with_reducible exact Below.refl _ _ | with_reducible exact HB.out | with_reducible apply Below.drew | with_reducible apply bdN | with_reducible refine Below.alloc ?_ (by first | exact Nat.le_refl _ | with_reducible exact HB.out.size | omega | (simp; done) | (simp; omega) | (have := HB.out.size; simp at *; omega)) _)⟩
end Go.Proofs.Ytjpfjgoebdogjaa.game

/- WorthClaims: the model's. -/
namespace Go.Proofs.Ytjpfjgoebdogjaa.game
open Go.RowKit
open cards deal reg
set_option linter.unusedVariables false

theorem runs_cons {P : Program} {ops : Array Oper} {S : World → Prop} {K : Act → World → Prop} (j : Nat) (d : Tmp) {r : List Nat} {a : Act} {w w' : World} {o : Oper} {v : Value} (ho : ops[j]? = some o) (hd : o.dst = some d) (hg : o.guard = none) (he : (execOp a.eval o).run P w = .ok (.value v) w') (hS : S w') (h : runsS P ops S K r (a.put (some d) v) w') : runsS P ops S K (j :: r) a w :=
  ⟨o, w', v, ho, hg, .inl he, hS, hd ▸ h⟩

set_option maxRecDepth 100000 in
set_option maxHeartbeats 4000000 in
theorem spec_wc (g : Gm) (cl : List Cd) (x : Int) (q : Option Addr) (k0 : Nat) (p ps pw : Option Addr) (n c ns cs nw cw m : Nat) (w : World) (hf : FitG n c ns cs nw cw p ps pw g) (hr : RdG w p ps pw g.l g.sc g.wr) (hm : cl.length = m) (hk0 : m ≤ k0) (hcw : ∀ x ∈ cl, wfc x) (hrc : Rd w q (flat cl)) :
    Calls Try.prog 23 #[gval g.s g.nx (.slice p n c) (.slice ps ns cs) (.slice pw nw cw), .slice q m k0, .int .i64 x] w fun e w' => e = .returned (.tuple #[.int .i64 (wcR g cl x).1, .bool (wcR g cl x).2]) ∧ Below w.heap.size w w' := by
  have HR := Lib.hid hr
  have HRc := Lib.hid hrc
  have HF := Lib.hid hf
  have HS := Lib.hid (fun w h h2 => spec_rc g cl q k0 p ps pw n c ns cs nw cw m w hf h hm hk0 hcw h2)
  by_cases hok : g.ok = true ∧ m ≤ 60
  · have ho := Gm.ok_iff.1 hok.1
    have hm60 := hok.2
    have hR : rcR g cl = (runG g cl m, cnts g cl m, true) := by unfold rcR; rw [if_pos ⟨hok.1, by rw [hm]; exact hm60⟩, hm]
    rw [hR] at HS
    obtain rfl : nw = ns := by rw [← HF.out.hw, ← HF.out.hs]; exact ho.eq
    have hn4 : nw ≤ 4 ∧ 1 ≤ nw := by have := ho.p4; have := ho.p1; have := HF.out.hs; omega
    obtain ⟨n4, n1⟩ := hn4
    have HIp := Lib.hid (fun w => l1_in x 0 ((nw : Int) - 1) w)
    have HIe : Hid (decide (0 ≤ x ∧ x ≤ (nw : Int) - 1) = isP nw x) := Lib.hid (by unfold isP; rw [Bool.eq_iff_iff, decide_eq_true_eq, decide_eq_true_eq]; omega)
    have hwr : IntKind.i64.wrap ((nw : Int) - 1) = (nw : Int) - 1 := IntWalk.i64_in _ (by omega)
    rw [HIe.out] at HIp
    have ho2 := runG_ok (cl := cl) ho m
    have HSl := Lib.hid ((runG_sc (g := g) (cl := cl) m).trans HF.out.hs)
    have HWl := Lib.hid (ho2.eq.trans HSl.out)
    have HSe := runG_s (cl := cl) ho m
    cases hp : isP nw x
    · have HT := Lib.hid (wc_no (g := g) (cl := cl) (x := x) (by rw [HF.out.hs, hp]; simp))
      rw [hp] at HIp
      rw [HT.out]
      obtain ⟨CN, hCN⟩ : ∃ CN, cnts g cl m = CN := ⟨_, rfl⟩
      obtain ⟨G, hG⟩ : ∃ G, runG g cl m = G := ⟨_, rfl⟩
      rw [hCN, hG] at HS
      rw [hG] at HSl HWl
      obtain ⟨s', x', L', SC', WR'⟩ := G
      clear hf hr hrc hok hm hp HT ho ho2 hR HSe hG hCN
      obtain ⟨s, nx, l, sc, wt⟩ := g
      simp only at HR HS HIp HSl HWl ⊢
      go_enter Try.func23, Try.ntmps23
      go_wp2_with fail
      refine ((HS.out _ (by repeat (first | with_reducible exact HR.out | with_reducible apply RdG.drewN | with_reducible apply RdG.drew | with_reducible apply RdG.alloc)) (by repeat (first | with_reducible exact HRc.out | with_reducible apply Rd.drewN | with_reducible apply Rd.drew | with_reducible apply Rd.alloc)))).mono ?_
      rintro e w2 ⟨vl, vs, vw, rfl, hg, b⟩
      have Sw2 := Lib.hid b.size
      have HB := Lib.hid (chain0 (w := w) (by repeat (first | with_reducible exact Below.refl _ _ | with_reducible exact HB.out | with_reducible apply Below.drew | with_reducible apply bdN | with_reducible refine Below.alloc ?_ (by first | exact Nat.le_refl _ | with_reducible exact HB.out.size | omega | (simp; done) | (simp; omega) | (have := HB.out.size; simp at *; omega)) _)) b)
      have HR := Lib.hid (RdG.below (by repeat (first | with_reducible exact HR.out | with_reducible apply RdG.drewN | with_reducible apply RdG.drew | with_reducible apply RdG.alloc)) b)
      have HRc := Lib.hid (Rd.below (by repeat (first | with_reducible exact HRc.out | with_reducible apply Rd.drewN | with_reducible apply Rd.drew | with_reducible apply Rd.alloc)) b)
      have K2 : Hid (GBox _ (w.heap.size) (⟨33, s, nx, .slice p n c, .slice ps nw cs, .slice pw nw cw⟩)) := Lib.hid (GBox.below (by repeat (first | with_reducible exact K2.out | with_reducible apply GBox.drewN | with_reducible apply GBox.drew | (with_reducible refine GBox.newAt ?_ ?_ <;> first | (simp; done) | rfl) | with_reducible apply GBox.alloc)) b)
      try clear k2a k2b k2c k2d k2e k2z
      have k2z := K2.out.lt
      obtain ⟨k2a, k2b, k2c, k2d, k2e⟩ := K2.out.cell
      clear b
      obtain ⟨p2, c2, ps2, cs2, pw2, cw2, rfl, rfl, rfl, hrg, -⟩ := hg.form
      rw [HSl.out, HWl.out]
      clear hg hrg
      go_upto_region 2 with fail
      obtain ⟨w3, ew, b⟩ : ∃ wOPN : World, wOPN = ((w2.alloc (Gv.obj ⟨33, s', x', .slice p2 L'.length c2, .slice ps2 nw cs2, .slice pw2 nw cw2⟩)).alloc (.cells #[.int .i64 CN.a, .int .i64 CN.b, .int .i64 CN.c, .int .i64 CN.d] 34)) ∧ Below (((w2.alloc (Gv.obj ⟨33, s', x', .slice p2 L'.length c2, .slice ps2 nw cs2, .slice pw2 nw cw2⟩)).alloc (.cells #[.int .i64 CN.a, .int .i64 CN.b, .int .i64 CN.c, .int .i64 CN.d] 34))).heap.size (((w2.alloc (Gv.obj ⟨33, s', x', .slice p2 L'.length c2, .slice ps2 nw cs2, .slice pw2 nw cw2⟩)).alloc (.cells #[.int .i64 CN.a, .int .i64 CN.b, .int .i64 CN.c, .int .i64 CN.d] 34))) wOPN := ⟨_, rfl, Below.refl _ _⟩
      rw [← ew]
      clear ew
      have Sw3 := Lib.hid b.size
      have HB := Lib.hid (chain0 (w := w) (by repeat (first | with_reducible exact Below.refl _ _ | with_reducible exact HB.out | with_reducible apply Below.drew | with_reducible apply bdN | with_reducible refine Below.alloc ?_ (by first | exact Nat.le_refl _ | with_reducible exact HB.out.size | omega | (simp; done) | (simp; omega) | (have := HB.out.size; simp at *; omega)) _)) b)
      have HR := Lib.hid (RdG.below (by repeat (first | with_reducible exact HR.out | with_reducible apply RdG.drewN | with_reducible apply RdG.drew | with_reducible apply RdG.alloc)) b)
      have HRc := Lib.hid (Rd.below (by repeat (first | with_reducible exact HRc.out | with_reducible apply Rd.drewN | with_reducible apply Rd.drew | with_reducible apply Rd.alloc)) b)
      have K2 : Hid (GBox _ (w.heap.size) (⟨33, s, nx, .slice p n c, .slice ps nw cs, .slice pw nw cw⟩)) := Lib.hid (GBox.below (by repeat (first | with_reducible exact K2.out | with_reducible apply GBox.drewN | with_reducible apply GBox.drew | (with_reducible refine GBox.newAt ?_ ?_ <;> first | (simp; done) | rfl) | with_reducible apply GBox.alloc)) b)
      try clear k2a k2b k2c k2d k2e k2z
      have k2z := K2.out.lt
      obtain ⟨k2a, k2b, k2c, k2d, k2e⟩ := K2.out.cell
      clear b
      go_wp2_with fail
      refine ((HIp.out _)).mono ?_
      rintro e w4 ⟨rfl, b⟩
      have Sw4 := Lib.hid b.size
      have HB := Lib.hid (chain0 (w := w) (by repeat (first | with_reducible exact Below.refl _ _ | with_reducible exact HB.out | with_reducible apply Below.drew | with_reducible apply bdN | with_reducible refine Below.alloc ?_ (by first | exact Nat.le_refl _ | with_reducible exact HB.out.size | omega | (simp; done) | (simp; omega) | (have := HB.out.size; simp at *; omega)) _)) b)
      have HR := Lib.hid (RdG.below (by repeat (first | with_reducible exact HR.out | with_reducible apply RdG.drewN | with_reducible apply RdG.drew | with_reducible apply RdG.alloc)) b)
      have HRc := Lib.hid (Rd.below (by repeat (first | with_reducible exact HRc.out | with_reducible apply Rd.drewN | with_reducible apply Rd.drew | with_reducible apply Rd.alloc)) b)
      have K2 : Hid (GBox _ (w.heap.size) (⟨33, s, nx, .slice p n c, .slice ps nw cs, .slice pw nw cw⟩)) := Lib.hid (GBox.below (by repeat (first | with_reducible exact K2.out | with_reducible apply GBox.drewN | with_reducible apply GBox.drew | (with_reducible refine GBox.newAt ?_ ?_ <;> first | (simp; done) | rfl) | with_reducible apply GBox.alloc)) b)
      try clear k2a k2b k2c k2d k2e k2z
      have k2z := K2.out.lt
      obtain ⟨k2a, k2b, k2c, k2d, k2e⟩ := K2.out.cell
      clear b
      go_wp2_with fail
      go_ret2
      exact ⟨rfl, by repeat (first | with_reducible exact Below.refl _ _ | with_reducible exact HB.out | with_reducible apply Below.drew | with_reducible apply bdN | with_reducible refine Below.alloc ?_ (by first | exact Nat.le_refl _ | with_reducible exact HB.out.size | omega | (simp; done) | (simp; omega) | (have := HB.out.size; simp at *; omega)) _)⟩
    · have hp2 := hp
      unfold isP at hp2
      have hp3 := of_decide_eq_true hp2
      obtain ⟨k, rfl⟩ : ∃ k : Nat, x = (k : Int) := ⟨x.toNat, by omega⟩
      have hk : k < nw := by omega
      have HPl := (pts_len ho.eq).trans HF.out.hs
      have HPl2 := (pts_len ho2.eq).trans HSl.out
      obtain ⟨px, hpx⟩ : ∃ px, (pts g)[k]? = some px := ⟨_, List.getElem?_eq_getElem (by rw [HPl]; exact hk)⟩
      obtain ⟨py, hpy⟩ : ∃ py, (pts (runG g cl m))[k]? = some py := ⟨_, List.getElem?_eq_getElem (by rw [HPl2]; exact hk)⟩
      obtain ⟨px0, px1⟩ := pts_bd ho hpx
      obtain ⟨py0, py1⟩ := pts_bd ho2 hpy
      have HT := Lib.hid (wc_yes (g := g) (cl := cl) (k := k) (a := py) (b := px) ⟨hok.1, by rw [hm]; exact hm60⟩ (by rw [HF.out.hs]; exact hp) (by rw [hm]; exact hpy) hpx)
      rw [hp] at HIp
      rw [HT.out]
      have HP := Lib.hid (fun w h => l8_points g p ps pw n c nw cs cw w HF.out.hs HF.out.hw (by omega) ho.ts ho.tw h)
      have HP2 := Lib.hid (fun p ps pw n c cs cw w h => l8_points (runG g cl m) p ps pw n c nw cs cw w HSl.out HWl.out (by omega) ho2.ts ho2.tw h)
      obtain ⟨P, hP⟩ : ∃ P, pts g = P := ⟨_, rfl⟩
      obtain ⟨P2, hP2⟩ : ∃ P2, pts (runG g cl m) = P2 := ⟨_, rfl⟩
      rw [hP] at HP hpx HPl
      rw [hP2] at HP2 hpy HPl2
      obtain ⟨CN, hCN⟩ : ∃ CN, cnts g cl m = CN := ⟨_, rfl⟩
      obtain ⟨G, hG⟩ : ∃ G, runG g cl m = G := ⟨_, rfl⟩
      rw [hCN, hG] at HS
      rw [hG] at HP2 HSl HWl HSe
      obtain ⟨s', x', L', SC', WR'⟩ := G
      have HPx := Lib.hid hpx
      have HPy := Lib.hid hpy
      have HPn := Lib.hid HPl
      have HPm := Lib.hid HPl2
      clear hf hr hrc hok hm hp hp2 hp3 HT ho ho2 hR hG hCN hP hP2 hpx hpy HPl HPl2 HSe
      obtain ⟨s, nx, l, sc, wt⟩ := g
      simp only at HR HS HIp HP HP2 HSl HWl ⊢
      go_enter Try.func23, Try.ntmps23
      go_wp2_with fail
      refine ((HS.out _ (by repeat (first | with_reducible exact HR.out | with_reducible apply RdG.drewN | with_reducible apply RdG.drew | with_reducible apply RdG.alloc)) (by repeat (first | with_reducible exact HRc.out | with_reducible apply Rd.drewN | with_reducible apply Rd.drew | with_reducible apply Rd.alloc)))).mono ?_
      rintro e w2 ⟨vl, vs, vw, rfl, hg, b⟩
      have Sw2 := Lib.hid b.size
      have HB := Lib.hid (chain0 (w := w) (by repeat (first | with_reducible exact Below.refl _ _ | with_reducible exact HB.out | with_reducible apply Below.drew | with_reducible apply bdN | with_reducible refine Below.alloc ?_ (by first | exact Nat.le_refl _ | with_reducible exact HB.out.size | omega | (simp; done) | (simp; omega) | (have := HB.out.size; simp at *; omega)) _)) b)
      have HR := Lib.hid (RdG.below (by repeat (first | with_reducible exact HR.out | with_reducible apply RdG.drewN | with_reducible apply RdG.drew | with_reducible apply RdG.alloc)) b)
      have HRc := Lib.hid (Rd.below (by repeat (first | with_reducible exact HRc.out | with_reducible apply Rd.drewN | with_reducible apply Rd.drew | with_reducible apply Rd.alloc)) b)
      have K2 : Hid (GBox _ (w.heap.size) (⟨33, s, nx, .slice p n c, .slice ps nw cs, .slice pw nw cw⟩)) := Lib.hid (GBox.below (by repeat (first | with_reducible exact K2.out | with_reducible apply GBox.drewN | with_reducible apply GBox.drew | (with_reducible refine GBox.newAt ?_ ?_ <;> first | (simp; done) | rfl) | with_reducible apply GBox.alloc)) b)
      try clear k2a k2b k2c k2d k2e k2z
      have k2z := K2.out.lt
      obtain ⟨k2a, k2b, k2c, k2d, k2e⟩ := K2.out.cell
      clear b
      obtain ⟨p2, c2, ps2, cs2, pw2, cw2, rfl, rfl, rfl, hrg, -⟩ := hg.form
      rw [HSl.out, HWl.out]
      have HRg := Lib.hid hrg
      clear hg hrg
      go_upto_region 2 with fail
      have K4 : Hid (GBox ((w2.alloc (Gv.obj ⟨33, s', x', .slice p2 L'.length c2, .slice ps2 nw cs2, .slice pw2 nw cw2⟩)).alloc (.cells #[.int .i64 CN.a, .int .i64 CN.b, .int .i64 CN.c, .int .i64 CN.d] 34)) w2.heap.size ⟨33, s', x', .slice p2 L'.length c2, .slice ps2 nw cs2, .slice pw2 nw cw2⟩) := Lib.hid ((GBox.newAt rfl rfl).alloc _)
      obtain ⟨g4, hg⟩ : ∃ g4, w2.heap.size = g4 := ⟨_, rfl⟩
      have HGg4 := Lib.hid hg
      rw [hg] at K4
      try rw [hg]
      clear hg
      obtain ⟨w3, ew, b⟩ : ∃ wOPN : World, wOPN = ((w2.alloc (Gv.obj ⟨33, s', x', .slice p2 L'.length c2, .slice ps2 nw cs2, .slice pw2 nw cw2⟩)).alloc (.cells #[.int .i64 CN.a, .int .i64 CN.b, .int .i64 CN.c, .int .i64 CN.d] 34)) ∧ Below (((w2.alloc (Gv.obj ⟨33, s', x', .slice p2 L'.length c2, .slice ps2 nw cs2, .slice pw2 nw cw2⟩)).alloc (.cells #[.int .i64 CN.a, .int .i64 CN.b, .int .i64 CN.c, .int .i64 CN.d] 34))).heap.size (((w2.alloc (Gv.obj ⟨33, s', x', .slice p2 L'.length c2, .slice ps2 nw cs2, .slice pw2 nw cw2⟩)).alloc (.cells #[.int .i64 CN.a, .int .i64 CN.b, .int .i64 CN.c, .int .i64 CN.d] 34))) wOPN := ⟨_, rfl, Below.refl _ _⟩
      rw [← ew]
      clear ew
      have Sw3 := Lib.hid b.size
      have HB := Lib.hid (chain0 (w := w) (by repeat (first | with_reducible exact Below.refl _ _ | with_reducible exact HB.out | with_reducible apply Below.drew | with_reducible apply bdN | with_reducible refine Below.alloc ?_ (by first | exact Nat.le_refl _ | with_reducible exact HB.out.size | omega | (simp; done) | (simp; omega) | (have := HB.out.size; simp at *; omega)) _)) b)
      have HR := Lib.hid (RdG.below (by repeat (first | with_reducible exact HR.out | with_reducible apply RdG.drewN | with_reducible apply RdG.drew | with_reducible apply RdG.alloc)) b)
      have HRc := Lib.hid (Rd.below (by repeat (first | with_reducible exact HRc.out | with_reducible apply Rd.drewN | with_reducible apply Rd.drew | with_reducible apply Rd.alloc)) b)
      have HRg := Lib.hid (RdG.below (by repeat (first | with_reducible exact HRg.out | with_reducible apply RdG.drewN | with_reducible apply RdG.drew | with_reducible apply RdG.alloc)) b)
      have K2 : Hid (GBox _ (w.heap.size) (⟨33, s, nx, .slice p n c, .slice ps nw cs, .slice pw nw cw⟩)) := Lib.hid (GBox.below (by repeat (first | with_reducible exact K2.out | with_reducible apply GBox.drewN | with_reducible apply GBox.drew | (with_reducible refine GBox.newAt ?_ ?_ <;> first | (simp; done) | rfl) | with_reducible apply GBox.alloc)) b)
      have K4 : Hid (GBox _ (g4) (⟨33, s', x', .slice p2 L'.length c2, .slice ps2 nw cs2, .slice pw2 nw cw2⟩)) := Lib.hid (GBox.below (by repeat (first | with_reducible exact K4.out | with_reducible apply GBox.drewN | with_reducible apply GBox.drew | (with_reducible refine GBox.newAt ?_ ?_ <;> first | (simp; done) | rfl) | with_reducible apply GBox.alloc)) b)
      try clear k2a k2b k2c k2d k2e k2z
      have k2z := K2.out.lt
      obtain ⟨k2a, k2b, k2c, k2d, k2e⟩ := K2.out.cell
      try clear k4a k4b k4c k4d k4e k4z
      have k4z := K4.out.lt
      obtain ⟨k4a, k4b, k4c, k4d, k4e⟩ := K4.out.cell
      clear b
      go_wp2_with fail
      refine ((HIp.out _)).mono ?_
      rintro e w4 ⟨rfl, b⟩
      have Sw4 := Lib.hid b.size
      have HB := Lib.hid (chain0 (w := w) (by repeat (first | with_reducible exact Below.refl _ _ | with_reducible exact HB.out | with_reducible apply Below.drew | with_reducible apply bdN | with_reducible refine Below.alloc ?_ (by first | exact Nat.le_refl _ | with_reducible exact HB.out.size | omega | (simp; done) | (simp; omega) | (have := HB.out.size; simp at *; omega)) _)) b)
      have HR := Lib.hid (RdG.below (by repeat (first | with_reducible exact HR.out | with_reducible apply RdG.drewN | with_reducible apply RdG.drew | with_reducible apply RdG.alloc)) b)
      have HRc := Lib.hid (Rd.below (by repeat (first | with_reducible exact HRc.out | with_reducible apply Rd.drewN | with_reducible apply Rd.drew | with_reducible apply Rd.alloc)) b)
      have HRg := Lib.hid (RdG.below (by repeat (first | with_reducible exact HRg.out | with_reducible apply RdG.drewN | with_reducible apply RdG.drew | with_reducible apply RdG.alloc)) b)
      have K2 : Hid (GBox _ (w.heap.size) (⟨33, s, nx, .slice p n c, .slice ps nw cs, .slice pw nw cw⟩)) := Lib.hid (GBox.below (by repeat (first | with_reducible exact K2.out | with_reducible apply GBox.drewN | with_reducible apply GBox.drew | (with_reducible refine GBox.newAt ?_ ?_ <;> first | (simp; done) | rfl) | with_reducible apply GBox.alloc)) b)
      have K4 : Hid (GBox _ (g4) (⟨33, s', x', .slice p2 L'.length c2, .slice ps2 nw cs2, .slice pw2 nw cw2⟩)) := Lib.hid (GBox.below (by repeat (first | with_reducible exact K4.out | with_reducible apply GBox.drewN | with_reducible apply GBox.drew | (with_reducible refine GBox.newAt ?_ ?_ <;> first | (simp; done) | rfl) | with_reducible apply GBox.alloc)) b)
      try clear k2a k2b k2c k2d k2e k2z
      have k2z := K2.out.lt
      obtain ⟨k2a, k2b, k2c, k2d, k2e⟩ := K2.out.cell
      try clear k4a k4b k4c k4d k4e k4z
      have k4z := K4.out.lt
      obtain ⟨k4a, k4b, k4c, k4d, k4e⟩ := K4.out.cell
      clear b
      go_upto_region 4 with fail
      have hz4 := HB.out.size
      refine region_any (BI w4) 13 (by kernel_rfl) rfl ?_
      refine take_p 0 29 (v := gval s' x' (.slice p2 L'.length c2) (.slice ps2 nw cs2) (.slice pw2 nw cw2)) rfl rfl rfl (by kernel_rfl) (by kernel_rfl) (by kernel_rfl) (fun w' h => exec_cell rfl (by kernel_rfl) (load_game (K4.out.below h))) (BI.start w4) ?_
      refine take_p 2 31 (v := .int .i64 k) rfl rfl rfl (by kernel_rfl) (by kernel_rfl) (by kernel_rfl) (fun w' h => by kernel_rfl) (BI.start w4) ?_
      refine take_p 5 34 (v := gval s nx (.slice p n c) (.slice ps nw cs) (.slice pw nw cw)) rfl rfl rfl (by kernel_rfl) (by kernel_rfl) (by kernel_rfl) (fun w' h => exec_cell rfl (by kernel_rfl) (load_game (K2.out.below h))) (BI.start w4) ?_
      refine take_p 7 36 (v := .int .i64 k) rfl rfl rfl (by kernel_rfl) (by kernel_rfl) (by kernel_rfl) (fun w' h => by kernel_rfl) (BI.start w4) ?_
      refine wpAnyH_all (rs := [1]) (by kernel_rfl) (by decide) (fun j hj => ?_)
      obtain rfl : j = 1 := by simpa using hj
      refine op_call 1 30 rfl rfl rfl (f := 39) (args := #[gval s' x' (.slice p2 L'.length c2) (.slice ps2 nw cs2) (.slice pw2 nw cw2)]) (by kernel_rfl) ?_
      refine (HP2.out p2 ps2 pw2 L'.length c2 cs2 cw2 _ (HRg.out.drew)).mono ?_
      rintro e w5 ⟨v, rfl, hv, b5⟩
      obtain ⟨pv, cv, rfl, hcv, hrv, _⟩ := hv.form
      have B5 : BI w4 w5 := BI.next (BI.start w4) b5
      refine ⟨_, rfl, B5, any_strong (S' := BI w5) (fun w' h => BI.next B5 h) _ _ _ _ ?_⟩
      obtain ⟨b1, o1, y1, rfl, hb1, hy1, c1⟩ := hrv.int (k := k) (by rw [HPm.out]; exact hk)
      obtain rfl : y1 = py := by have h := HPy.out; rw [h] at hy1; injection hy1 with hy1; exact hy1.symm
      refine take_p 3 32 (v := .pointer (some ⟨b1, o1 + k, none⟩)) rfl rfl rfl (by kernel_rfl) (by kernel_rfl) (by kernel_rfl) (fun w' h => exec_indexI (n := P2.length) (cp := cv) (by rw [HPm.out]; exact hk) rfl (by kernel_rfl) (by kernel_rfl) w') (Below.refl _ _) ?_
      refine take_p 4 33 (v := .int .i64 y1) rfl rfl rfl (by kernel_rfl) (by kernel_rfl) (by kernel_rfl) (fun w' h => exec_cell rfl (by kernel_rfl) (load_int ((Below.cell (p := ⟨b1, o1 + k, none⟩) h hb1).trans c1))) (Below.refl _ _) ?_
      refine wpAnyH_all (rs := [6]) (by kernel_rfl) (by decide) (fun j hj => ?_)
      obtain rfl : j = 6 := by simpa using hj
      refine op_call 6 35 rfl rfl rfl (f := 39) (args := #[gval s nx (.slice p n c) (.slice ps nw cs) (.slice pw nw cw)]) (by kernel_rfl) ?_
      refine (HP.out _ (RdG.below HR.out B5)).mono ?_
      rintro e w6 ⟨v, rfl, hv6, b6⟩
      obtain ⟨pu, cu, rfl, hcu, hru, _⟩ := hv6.form
      refine ⟨_, rfl, b6, any_strong (S' := BI w6) (fun w' h => BI.next b6 h) _ _ _ _ ?_⟩
      obtain ⟨b2, o2, y2, rfl, hb2, hy2, d1⟩ := hru.int (k := k) (by rw [HPn.out]; exact hk)
      obtain rfl : y2 = px := by have h := HPx.out; rw [h] at hy2; injection hy2 with hy2; exact hy2.symm
      refine take_p 8 37 (v := .pointer (some ⟨b2, o2 + k, none⟩)) rfl rfl rfl (by kernel_rfl) (by kernel_rfl) (by kernel_rfl) (fun w' h => exec_indexI (n := P.length) (cp := cu) (by rw [HPn.out]; exact hk) rfl (by kernel_rfl) (by kernel_rfl) w') (Below.refl _ _) ?_
      refine take_p 9 38 (v := .int .i64 y2) rfl rfl rfl (by kernel_rfl) (by kernel_rfl) (by kernel_rfl) (fun w' h => exec_cell rfl (by kernel_rfl) (load_int ((Below.cell (p := ⟨b2, o2 + k, none⟩) h hb2).trans d1))) (Below.refl _ _) ?_
      refine seq_of [10, 11, 12] _ _ _ (by kernel_rfl) (Below.refl _ _) (runs_cons 10 39 (w' := w6) (v := .int .i64 (y1 - y2)) rfl rfl rfl (exec_subI (x := y1) (y := y2) (by omega) (by omega) rfl (by kernel_rfl) (by kernel_rfl) w6) (Below.refl _ _) (runs_cons 11 6 (w' := w6) (v := .int .i64 (y1 - y2)) rfl rfl rfl (by kernel_rfl) (Below.refl _ _) (runs_cons 12 7 (w' := w6) (v := .bool true) rfl rfl rfl (by kernel_rfl) (Below.refl _ _) (NoPanic.normal ?_))))
      have HBf : Hid (Below w.heap.size w w6) := Lib.hid (HB.out.trans ((BI.next B5 b6 : Below w4.heap.size w4 w6).mono hz4))
      clear hru hrv hv hv6 b5 b6 B5 c1 d1
      simp only [Act.put, List.setIfInBounds_toArray, List.set_cons_zero, List.set_cons_succ]
      go_wp2_with fail
      go_ret2
      exact ⟨rfl, HBf.out⟩
  · have hRb : (rcR g cl).2.2 = false := by unfold rcR; rw [if_neg (by rw [hm]; exact hok)]
    have HT := Lib.hid (wc_no (g := g) (cl := cl) (x := x) (by rw [hm]; exact fun h => hok h.1))
    rw [HT.out]
    obtain ⟨R, hR⟩ : ∃ R, rcR g cl = R := ⟨_, rfl⟩
    rw [hR] at HS hRb
    obtain ⟨⟨s', x', L', SC', WR'⟩, CN, B⟩ := R
    simp only at hRb
    subst hRb
    clear hf hr hrc hok hm HT hR
    obtain ⟨s, nx, l, sc, wt⟩ := g
    simp only at HR HS ⊢
    go_enter Try.func23, Try.ntmps23
    go_wp2_with fail
    refine ((HS.out _ (by repeat (first | with_reducible exact HR.out | with_reducible apply RdG.drewN | with_reducible apply RdG.drew | with_reducible apply RdG.alloc)) (by repeat (first | with_reducible exact HRc.out | with_reducible apply Rd.drewN | with_reducible apply Rd.drew | with_reducible apply Rd.alloc)))).mono ?_
    rintro e w2 ⟨vl, vs, vw, rfl, hg, b⟩
    have Sw2 := Lib.hid b.size
    have HB := Lib.hid (chain0 (w := w) (by repeat (first | with_reducible exact Below.refl _ _ | with_reducible exact HB.out | with_reducible apply Below.drew | with_reducible apply bdN | with_reducible refine Below.alloc ?_ (by first | exact Nat.le_refl _ | with_reducible exact HB.out.size | omega | (simp; done) | (simp; omega) | (have := HB.out.size; simp at *; omega)) _)) b)
    have HR := Lib.hid (RdG.below (by repeat (first | with_reducible exact HR.out | with_reducible apply RdG.drewN | with_reducible apply RdG.drew | with_reducible apply RdG.alloc)) b)
    have HRc := Lib.hid (Rd.below (by repeat (first | with_reducible exact HRc.out | with_reducible apply Rd.drewN | with_reducible apply Rd.drew | with_reducible apply Rd.alloc)) b)
    have K2 : Hid (GBox _ (w.heap.size) (⟨33, s, nx, .slice p n c, .slice ps ns cs, .slice pw nw cw⟩)) := Lib.hid (GBox.below (by repeat (first | with_reducible exact K2.out | with_reducible apply GBox.drewN | with_reducible apply GBox.drew | (with_reducible refine GBox.newAt ?_ ?_ <;> first | (simp; done) | rfl) | with_reducible apply GBox.alloc)) b)
    try clear k2a k2b k2c k2d k2e k2z
    have k2z := K2.out.lt
    obtain ⟨k2a, k2b, k2c, k2d, k2e⟩ := K2.out.cell
    clear b
    obtain ⟨p2, c2, ps2, cs2, pw2, cw2, rfl, rfl, rfl, hrg, -⟩ := hg.form
    clear hg hrg
    go_upto_region 2 with fail
    obtain ⟨w3, ew, b⟩ : ∃ wOPN : World, wOPN = ((w2.alloc (Gv.obj ⟨33, s', x', .slice p2 L'.length c2, .slice ps2 SC'.length cs2, .slice pw2 WR'.length cw2⟩)).alloc (.cells #[.int .i64 CN.a, .int .i64 CN.b, .int .i64 CN.c, .int .i64 CN.d] 34)) ∧ Below (((w2.alloc (Gv.obj ⟨33, s', x', .slice p2 L'.length c2, .slice ps2 SC'.length cs2, .slice pw2 WR'.length cw2⟩)).alloc (.cells #[.int .i64 CN.a, .int .i64 CN.b, .int .i64 CN.c, .int .i64 CN.d] 34))).heap.size (((w2.alloc (Gv.obj ⟨33, s', x', .slice p2 L'.length c2, .slice ps2 SC'.length cs2, .slice pw2 WR'.length cw2⟩)).alloc (.cells #[.int .i64 CN.a, .int .i64 CN.b, .int .i64 CN.c, .int .i64 CN.d] 34))) wOPN := ⟨_, rfl, Below.refl _ _⟩
    rw [← ew]
    clear ew
    have Sw3 := Lib.hid b.size
    have HB := Lib.hid (chain0 (w := w) (by repeat (first | with_reducible exact Below.refl _ _ | with_reducible exact HB.out | with_reducible apply Below.drew | with_reducible apply bdN | with_reducible refine Below.alloc ?_ (by first | exact Nat.le_refl _ | with_reducible exact HB.out.size | omega | (simp; done) | (simp; omega) | (have := HB.out.size; simp at *; omega)) _)) b)
    have HR := Lib.hid (RdG.below (by repeat (first | with_reducible exact HR.out | with_reducible apply RdG.drewN | with_reducible apply RdG.drew | with_reducible apply RdG.alloc)) b)
    have HRc := Lib.hid (Rd.below (by repeat (first | with_reducible exact HRc.out | with_reducible apply Rd.drewN | with_reducible apply Rd.drew | with_reducible apply Rd.alloc)) b)
    have K2 : Hid (GBox _ (w.heap.size) (⟨33, s, nx, .slice p n c, .slice ps ns cs, .slice pw nw cw⟩)) := Lib.hid (GBox.below (by repeat (first | with_reducible exact K2.out | with_reducible apply GBox.drewN | with_reducible apply GBox.drew | (with_reducible refine GBox.newAt ?_ ?_ <;> first | (simp; done) | rfl) | with_reducible apply GBox.alloc)) b)
    try clear k2a k2b k2c k2d k2e k2z
    have k2z := K2.out.lt
    obtain ⟨k2a, k2b, k2c, k2d, k2e⟩ := K2.out.cell
    clear b
    go_wp2_with fail
    go_ret2
    exact ⟨rfl, by repeat (first | with_reducible exact Below.refl _ _ | with_reducible exact HB.out | with_reducible apply Below.drew | with_reducible apply bdN | with_reducible refine Below.alloc ?_ (by first | exact Nat.le_refl _ | with_reducible exact HB.out.size | omega | (simp; done) | (simp; omega) | (have := HB.out.size; simp at *; omega)) _)⟩
end Go.Proofs.Ytjpfjgoebdogjaa.game

/- Lists of claims: the law's own functions walked. -/
namespace Go.Proofs.Ytjpfjgoebdogjaa.game
open Go.RowKit
open cards deal
set_option linter.unusedVariables false

set_option maxHeartbeats 400000 in
theorem sz_claims (p : Option Addr) (n c : Nat) (left : Int) (w : World) (h0 : 0 ≤ left) (h1 : left ≤ 1048576) (hn : n ≤ maxLen) :
    Calls Try.prog 7 #[.slice p n c, .int .i64 left] w fun e w' => e = .returned (.int .i64 (szLeft n left)) ∧ w = w' := by
  unfold maxLen at hn
  by_cases h : left - n < 0
  · have HT := Lib.hid (show -1 = szLeft n left by rw [szLeft, if_pos h])
    go_enter Try.func7, Try.ntmps7
    go_wp2
    go_ret
    exact ⟨ret_int HT.out, rfl⟩
  · have HT := Lib.hid (show left - n = szLeft n left by rw [szLeft, if_neg h])
    go_enter Try.func7, Try.ntmps7
    go_wp2
    go_ret
    exact ⟨ret_int HT.out, rfl⟩

set_option maxRecDepth 100000 in
set_option maxHeartbeats 1000000 in
theorem eq_claim (x : Cd) (w : World) :
    Calls Try.prog 36 #[x.val, x.val] w fun e w' => e = .returned (.bool true) ∧ Below w.heap.size w w' := by
  have hs := same_A3_self ⟨x.b, x.c, x.d⟩
  go_enter Try.func36, Try.ntmps36
  go_wp2_with fail
  refine (eq_A3 ⟨x.b, x.c, x.d⟩ ⟨x.b, x.c, x.d⟩ _).mono ?_
  rintro e w1 ⟨rfl, b⟩
  have HB : Hid (Below w.heap.size w w1) := Lib.hid ((((Below.refl _ _).alloc (Nat.le_refl _) _).alloc (by simp) _).trans (b.mono (by simp; omega)))
  clear b
  rw [hs]
  go_wp2_with fail
  go_ret
  exact ⟨rfl, HB.out⟩

set_option maxRecDepth 100000 in
set_option maxHeartbeats 2000000 in
theorem eq_claims (l : List Cd) (p1 p2 : Option Addr) (n c1 c2 : Nat) (w : World) (hn : l.length = n) (hl : n ≤ 1000000000) (hr1 : Rd w p1 (flat l)) (hr2 : Rd w p2 (flat l)) :
    Calls Try.prog 14 #[.slice p1 n c1, .slice p2 n c2] w fun e w' => e = .returned (.bool true) ∧ Below w.heap.size w w' := by
  have HN := Lib.hid hn
  have H1 := Lib.hid hr1
  have H2 := Lib.hid hr2
  clear hn hr1 hr2
  go_enter Try.func14, Try.ntmps14
  go_wp2_with fail
  go_loopw [5] (fun i wr => ∃ k : Nat, k ≤ n ∧ i = .int .i64 k ∧ Hid (Below w.heap.size w wr)) (fun i _ => n - (intOf i).toNat)
  case atStart => exact ⟨0, Nat.zero_le _, rfl, Below.refl _ _⟩
  case round =>
    obtain ⟨k, hk, rfl, HB⟩ := hrel
    by_cases hlt : k < n
    · obtain ⟨b, o, x, rfl, hb, hx, d0, d1, d2, d3⟩ := (H1.out.below HB.out).card (k := k) (by rw [HN.out]; exact hlt)
      obtain ⟨b', o', y, rfl, hb', hy, e0, e1, e2, e3⟩ := (H2.out.below HB.out).card (k := k) (by rw [HN.out]; exact hlt)
      obtain rfl : x = y := by rw [hx] at hy; injection hy
      have b0 : (0 : Int) ≤ (k : Int) := by omega
      have b1 : (k : Int) < (n : Int) := by omega
      clear hx hy
      go_wp2_with fail
      have qd0 := fun d os => cell_regrown d0 d os
      have qd1 := fun d os => cell_regrown d1 d os
      have qd2 := fun d os => cell_regrown d2 d os
      have qd3 := fun d os => cell_regrown d3 d os
      have qe0 := fun d os => cell_regrown e0 d os
      have qe1 := fun d os => cell_regrown e1 d os
      have qe2 := fun d os => cell_regrown e2 d os
      have qe3 := fun d os => cell_regrown e3 d os
      refine wp_region_quiet_below (by kernel_rfl) (by kernel_rfl) ?_
      repeat (first | go_big_quiet_step ((go_at_call 36; exact Calls.regrown_of (eq_claim _ _))) | quiet_step ((go_at_call 36; exact Calls.regrown_of (eq_claim _ _))))
      refine wpQuiet_nil ?_
      intro w2 hw2
      have b : Below wr.heap.size wr w2 := by obtain ⟨r, hr⟩ := hw2; rw [hr]; exact below_regrown _ _ _
      clear hw2 qd0 qd1 qd2 qd3 qe0 qe1 qe2 qe3
      have Sw2 := Lib.hid b.size
      have HB := Lib.hid (chain0 (w := w) (by repeat (first | with_reducible exact Below.refl _ _ | with_reducible exact HB.out | with_reducible apply Below.drew | with_reducible apply bdN | with_reducible refine Below.alloc ?_ (by first | exact Nat.le_refl _ | with_reducible exact HB.out.size | omega | (simp; done) | (simp; omega) | (have := HB.out.size; simp at *; omega)) _)) b)
      clear b
      clear d0 d1 d2 d3 e0 e1 e2 e3
      go_wp2_with fail
      go_roundw
      case rel => exact ⟨k + 1, by omega, by go_num, HB⟩
      case measure => simp [intOf]; omega
    · obtain rfl : k = n := by omega
      go_wp2_with fail
      go_ret
      exact ⟨rfl, HB.out⟩

set_option maxRecDepth 100000 in
set_option maxHeartbeats 4000000 in
theorem mark_claims (l : List Cd) (v : Value) (B C k0 n : Nat) (w : World) (hn : l.length = n) (hl : k0 + 4 * n ≤ 1000000000) (hC : C ≤ w.heap.size) (hBC : B ≤ C) (ho : OwnC w B C v l) :
    Calls Try.prog 16 #[v, .int .i64 k0] w fun e w' => e = .returned (.int .i64 (k0 + 4 * n : Nat)) ∧ OwnC w' B C v (marked k0 n) ∧ Out B C w w' := by
  obtain ⟨p, c, rfl, hc, hr, hp⟩ := ho.form
  rw [hn] at ho hp ⊢
  have HN := Lib.hid hn
  have HP := Lib.hid hp
  have HO := Lib.hid ho
  clear hn hr ho hc hp
  go_enter Try.func16, Try.ntmps16
  go_wp2_with fail
  go_loopw [1, 5, 6] (fun q i _ wr => ∃ k : Nat, k ≤ n ∧ i = .int .i64 k ∧ q = .int .i64 (k0 + 4 * k : Nat) ∧ Hid (OwnC wr B C (.slice p n c) (mks k0 l k)) ∧ Hid (w.grownBy wr (Value.slice p n c).ownBlock)) (fun _ i _ _ => n - (intOf i).toNat)
  case atStart => exact ⟨0, Nat.zero_le _, rfl, rfl, by rw [mks_zero]; exact HO, World.grownBy.refl _ _⟩
  case round =>
    have HC0 := Lib.hid HO.out.c
    clear HO
    obtain ⟨k, hk, rfl, rfl, HO, HB⟩ := hrel
    by_cases hlt : k < n
    · obtain ⟨g, rfl, _⟩ := HP.out (by omega)
      obtain ⟨y, hy, d0, d1, d2, d3, hf, hg1, hg2⟩ := HO.out.slots (mks_len HN.out hk) k hlt
      have b0 : (0 : Int) ≤ (k : Int) := by omega
      have b1 : (k : Int) < (n : Int) := by omega
      have HS := HO.out.store (mks_len HN.out hk) k hlt (mk k0 k)
      rw [mks_set HN.out hlt] at HS
      have HS := Lib.hid HS
      clear hy HO
      go_wp2_with fail
      refine wp_loop_rounds 4 ?_
      repeat (rw [rounds_succ]; go_wp2_with fail)
      exact ⟨⟨k + 1, by omega, by go_num, by go_num, HS, grown_set (grown_set (grown_set (grown_set HB.out _ _) _ _) _ _) _ _⟩, by simp [intOf]; omega⟩
    · obtain rfl : k = n := by omega
      rw [mks_all HN.out] at HO
      go_wp2_with fail
      go_ret
      exact ⟨rfl, HO.out, Out.grown HB.out (fun g e => ⟨(HO.out.span g e).1, HO.out.c g e⟩)⟩
end Go.Proofs.Ytjpfjgoebdogjaa.game

