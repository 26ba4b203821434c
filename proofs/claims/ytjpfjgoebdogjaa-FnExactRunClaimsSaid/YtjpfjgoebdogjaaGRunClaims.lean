/- FnExactRunClaims: for every Game and every list of claims, valid or not, the law returns true and its arguments read as before. No condition. -/
import Derived.Test.YtjpfjgoebdogjaaRows
import Derived.Test.YtjpfjgoebdogjaaEb
import Derived.Test.YtjpfjgoebdogjaaGRunClaims0
import Derived.Test.YtjpfjgoebdogjaaGRunClaims1
import Derived.Test.YtjpfjgoebdogjaaGRunClaims2
namespace Go.Proofs.Ytjpfjgoebdogjaa.lawRunClaims
open Go.ChangeShapes Go.WideShapes Go.ChangeAt Go.RowKit
open Go.ChangeMaps (open_string shut_string)
open cards deal reg game
set_option linter.unusedVariables false

set_option maxRecDepth 100000 in
set_option maxHeartbeats 8000000 in
theorem walk (s nx : Int) (p : Option Addr) (n c : Nat) (l : List Cd) (ps : Option Addr) (ns cs : Nat) (sc : List Int) (pw : Option Addr) (nw cw : Nat) (wt : List Int) (q : Option Addr) (m k : Nat) (cl : List Cd) (w : World) (hw : l.length = n ∧ n ≤ maxLen ∧ Rd w p (flat l) ∧ (∀ x ∈ l, wfc x) ∧ (Lit.int .i64 s).wf = true ∧ (Lit.int .i64 nx).wf = true ∧ sc.length = ns ∧ ns ≤ maxLen ∧ Rd w ps (ints sc) ∧ frame.wfI sc ∧ wt.length = nw ∧ nw ≤ maxLen ∧ Rd w pw (ints wt) ∧ frame.wfI wt) (hcl : cl.length = m ∧ m ≤ maxLen ∧ Rd w q (flat cl) ∧ ∀ x ∈ cl, wfc x) :
    Calls Try.prog 3 #[gval s nx (.slice p n c) (.slice ps ns cs) (.slice pw nw cw), .slice q m k] w fun e w' => e = .returned (.bool true) ∧ Below w.heap.size w w' := by
  obtain ⟨hn, hm, hr, hwf, _, _, hsn, hsm, hsr, _, hwn, hwm, hwr, _⟩ := hw
  have HN := Lib.hid hn
  have HS := Lib.hid hsn
  have HW := Lib.hid hwn
  have HM := Lib.hid hm
  have HMS := Lib.hid hsm
  have HMW := Lib.hid hwm
  have HWf := Lib.hid hwf
  have HR : Hid (RdG w p ps pw l sc wt) := Lib.hid ⟨hr, hsr, hwr⟩
  have HR0 := Lib.hid HR.out
  obtain ⟨hcn, hcm, hcr, hcw⟩ := hcl
  have HCn := Lib.hid hcn
  have HCm := Lib.hid hcm
  have HRc := Lib.hid hcr
  have HRc0 := Lib.hid hcr
  have HCw := Lib.hid hcw
  clear hcn hcm hcr hcw
  clear hn hm hr hwf hsn hsm hsr hwn hwm hwr
  have HZ := Lib.hid (fun w => sz_game s nx p ps pw n c ns cs nw cw 1048576 w (by omega) (by omega) HM.out HMS.out HMW.out)
  have hz2 := fun h => szG_yes (n := n) (ns := ns) (nw := nw) h
  obtain ⟨z, hz⟩ : ∃ z, szG n ns nw 1048576 = z := ⟨_, rfl⟩
  rw [hz] at HZ hz2
  clear hz
  by_cases hz : z < 0
  · clear hz2
    go_enter Try.func3, Try.ntmps3
    go_wp2_with fail
    refine ((HZ.out _)).mono ?_
    rintro e w0 ⟨rfl, b⟩
    have Sw0 := Lib.hid b.size
    have HB := Lib.hid (chain0 (w := w) (by repeat (first | with_reducible exact Below.refl _ _ | with_reducible exact HB.out | with_reducible apply Below.drew | with_reducible apply bdN | with_reducible refine Below.alloc ?_ (by first | exact Nat.le_refl _ | with_reducible exact HB.out.size | omega | (simp; done) | (simp; omega) | (have := HB.out.size; simp at *; omega)) _)) b)
    have K0 : Hid (GBox _ (w.heap.size) (⟨27, s, nx, .slice p n c, .slice ps ns cs, .slice pw nw cw⟩)) := Lib.hid (GBox.below (by repeat (first | with_reducible exact K0.out | with_reducible apply GBox.drewN | with_reducible apply GBox.drew | (with_reducible refine GBox.newAt ?_ ?_ <;> first | (simp; done) | rfl) | with_reducible apply GBox.alloc)) b)
    try clear k0a k0b k0c k0d k0e k0z
    have k0z := K0.out.lt
    obtain ⟨k0a, k0b, k0c, k0d, k0e⟩ := K0.out.cell
    clear b
    go_wp2_with fail
    go_ret
    exact ⟨rfl, by repeat (first | with_reducible exact Below.refl _ _ | with_reducible exact HB.out | with_reducible apply Below.drew | with_reducible apply bdN | with_reducible refine Below.alloc ?_ (by first | exact Nat.le_refl _ | with_reducible exact HB.out.size | omega | (simp; done) | (simp; omega) | (have := HB.out.size; simp at *; omega)) _)⟩
  · have z1 : 0 ≤ z := by omega
    obtain ⟨zn, zs, zw, zz, zt⟩ := hz2 z1
    clear hz2 hz
    have HZc := Lib.hid (fun w => sz_claims q m k z w (by omega) (by omega) HCm.out)
    have hzy : szLeft m z = -1 ∨ (0 ≤ szLeft m z ∧ m ≤ 1048576) := by unfold szLeft; split <;> omega
    obtain ⟨y, hy⟩ : ∃ y, szLeft m z = y := ⟨_, rfl⟩
    rw [hy] at HZc hzy
    clear hy
    by_cases hy : y < 0
    · clear hzy
      go_enter Try.func3, Try.ntmps3
      go_wp2_with fail
      refine ((HZ.out _)).mono ?_
      rintro e w0 ⟨rfl, b⟩
      have Sw0 := Lib.hid b.size
      have HB := Lib.hid (chain0 (w := w) (by repeat (first | with_reducible exact Below.refl _ _ | with_reducible exact HB.out | with_reducible apply Below.drew | with_reducible apply bdN | with_reducible refine Below.alloc ?_ (by first | exact Nat.le_refl _ | with_reducible exact HB.out.size | omega | (simp; done) | (simp; omega) | (have := HB.out.size; simp at *; omega)) _)) b)
      have K0 : Hid (GBox _ (w.heap.size) (⟨27, s, nx, .slice p n c, .slice ps ns cs, .slice pw nw cw⟩)) := Lib.hid (GBox.below (by repeat (first | with_reducible exact K0.out | with_reducible apply GBox.drewN | with_reducible apply GBox.drew | (with_reducible refine GBox.newAt ?_ ?_ <;> first | (simp; done) | rfl) | with_reducible apply GBox.alloc)) b)
      try clear k0a k0b k0c k0d k0e k0z
      have k0z := K0.out.lt
      obtain ⟨k0a, k0b, k0c, k0d, k0e⟩ := K0.out.cell
      clear b
      go_wp2_with fail
      refine (HZc.out _).mono ?_
      rintro e w0c ⟨rfl, rfl⟩
      go_wp2_with fail
      go_ret
      exact ⟨rfl, by repeat (first | with_reducible exact Below.refl _ _ | with_reducible exact HB.out | with_reducible apply Below.drew | with_reducible apply bdN | with_reducible refine Below.alloc ?_ (by first | exact Nat.le_refl _ | with_reducible exact HB.out.size | omega | (simp; done) | (simp; omega) | (have := HB.out.size; simp at *; omega)) _)⟩
    have y1 : 0 ≤ y := by omega
    have ym : m ≤ 1048576 := by omega
    clear hy hzy
    have HSp := Lib.hid (fun p ps pw n c ns cs nw cw q k w hf hr hc hrc => spec_rc ⟨s, nx, l, sc, wt⟩ cl q k p ps pw n c ns cs nw cw m w hf hr HCn.out hc HCw.out hrc)
    have HIm := Lib.hid (fun p ps pw n c ns cs nw cw q k w hf hr hc hrc => impl_run ⟨s, nx, l, sc, wt⟩ cl q k p ps pw n c ns cs nw cw m w hf hr HCn.out hc HCw.out hrc)
    have HLn := Lib.hid (rcR_len ⟨s, nx, l, sc, wt⟩ cl)
    obtain ⟨s1, hs1⟩ : ∃ s1, (rcR (Gm.mk s nx l sc wt) cl).1.s = s1 := ⟨_, rfl⟩
    obtain ⟨n1, hn1⟩ : ∃ n1, (rcR (Gm.mk s nx l sc wt) cl).1.nx = n1 := ⟨_, rfl⟩
    obtain ⟨L, hL⟩ : ∃ L, (rcR (Gm.mk s nx l sc wt) cl).1.l = L := ⟨_, rfl⟩
    obtain ⟨SC, hSC⟩ : ∃ SC, (rcR (Gm.mk s nx l sc wt) cl).1.sc = SC := ⟨_, rfl⟩
    obtain ⟨WR, hWR⟩ : ∃ WR, (rcR (Gm.mk s nx l sc wt) cl).1.wr = WR := ⟨_, rfl⟩
    obtain ⟨r1, hr1⟩ : ∃ r1, (rcR (Gm.mk s nx l sc wt) cl).2.1 = r1 := ⟨_, rfl⟩
    obtain ⟨r2, hr2⟩ : ∃ r2, (rcR (Gm.mk s nx l sc wt) cl).2.2 = r2 := ⟨_, rfl⟩
    rw [hL, hSC, hWR] at HLn
    rw [hs1, hn1, hL, hSC, hWR, hr1, hr2] at HSp HIm
    clear hs1 hn1 hL hSC hWR hr1 hr2
    obtain ⟨a1, ha1⟩ : ∃ a1, L.length = a1 := ⟨_, rfl⟩
    obtain ⟨a2, ha2⟩ : ∃ a2, SC.length = a2 := ⟨_, rfl⟩
    obtain ⟨a3, ha3⟩ : ∃ a3, WR.length = a3 := ⟨_, rfl⟩
    have HMm := Lib.hid ha1
    have HMs := Lib.hid ha2
    have HMw := Lib.hid ha3
    rw [ha1, ha2, ha3] at HLn
    obtain ⟨hl1, hl2, hl3⟩ := HLn.out
    clear ha1 ha2 ha3 HLn
    have HE4 : Hid (∀ w, Calls Try.prog 13 #[r1.val, r1.val] w fun e w' => e = .returned (.bool true) ∧ Below w.heap.size w w') := Lib.hid (fun w => by
      have h := eq_a4 r1 r1 w
      have e : same r1 r1 = true := by simp [same]
      rw [e] at h
      exact h)
    go_enter Try.func3, Try.ntmps3
    go_wp2_with fail
    refine ((HZ.out _)).mono ?_
    rintro e w0 ⟨rfl, b⟩
    have Sw0 : Hid (w.heap.size ≤ w0.heap.size) := Lib.hid (by first | exact b.size | (have h := b.size; simp at h; omega))
    have HB := Lib.hid (chain0 (w := w) (by repeat (first | with_reducible exact Below.refl _ _ | with_reducible exact HB.out | with_reducible apply Below.drew | with_reducible apply bdN | with_reducible refine Below.alloc ?_ (by first | exact Nat.le_refl _ | with_reducible exact HB.out.size | omega | (simp; done) | (simp; omega) | (have := HB.out.size; simp at *; omega)) _)) b)
    have HR := Lib.hid (RdG.below (by repeat (first | with_reducible exact HR.out | with_reducible apply RdG.drewN | with_reducible apply RdG.drew | with_reducible apply RdG.alloc)) b)
    have HRc := Lib.hid (Rd.below (by repeat (first | with_reducible exact HRc.out | with_reducible apply Rd.drewN | with_reducible apply Rd.drew | with_reducible apply Rd.alloc)) b)
    have K0 : Hid (GBox _ (w.heap.size) (⟨27, s, nx, .slice p n c, .slice ps ns cs, .slice pw nw cw⟩)) := Lib.hid (GBox.below (by repeat (first | with_reducible exact K0.out | with_reducible apply GBox.drewN | with_reducible apply GBox.drew | (with_reducible refine GBox.newAt ?_ ?_ <;> first | (simp; done) | rfl) | with_reducible apply GBox.alloc)) b)
    try clear k0a k0b k0c k0d k0e k0z
    have k0z := K0.out.lt
    obtain ⟨k0a, k0b, k0c, k0d, k0e⟩ := K0.out.cell
    clear b
    go_wp2_with fail
    refine (HZc.out _).mono ?_
    rintro e w0c ⟨rfl, rfl⟩
    have Yw1K0 := Lib.hid K0.out.lt
    go_wp2_with fail
    refine ((to_game s nx l sc wt p ps pw n c ns cs nw cw _ HN.out HS.out HW.out (by omega) (by omega) (by omega) HWf.out HR.out)).mono ?_
    rintro e w1 ⟨p1, c1, ps1, cs1, pw1, cw1, rfl, o1, r1, f1, b⟩
    have F1 := Lib.hid f1
    have Sw1 : Hid (w0.heap.size ≤ w1.heap.size) := Lib.hid (by first | exact b.size | (have h := b.size; simp at h; omega))
    have HB := Lib.hid (chain0 (w := w) (by repeat (first | with_reducible exact Below.refl _ _ | with_reducible exact HB.out | with_reducible apply Below.drew | with_reducible apply bdN | with_reducible refine Below.alloc ?_ (by first | exact Nat.le_refl _ | with_reducible exact HB.out.size | omega | (simp; done) | (simp; omega) | (have := HB.out.size; simp at *; omega)) _)) b)
    have Zw1 := Lib.hid HB.out.size
    have HR := Lib.hid (RdG.below (by repeat (first | with_reducible exact HR.out | with_reducible apply RdG.drewN | with_reducible apply RdG.drew | with_reducible apply RdG.alloc)) b)
    have HRc := Lib.hid (Rd.below (by repeat (first | with_reducible exact HRc.out | with_reducible apply Rd.drewN | with_reducible apply Rd.drew | with_reducible apply Rd.alloc)) b)
    have K0 : Hid (GBox _ (w.heap.size) (⟨27, s, nx, .slice p n c, .slice ps ns cs, .slice pw nw cw⟩)) := Lib.hid (GBox.below (by repeat (first | with_reducible exact K0.out | with_reducible apply GBox.drewN | with_reducible apply GBox.drew | (with_reducible refine GBox.newAt ?_ ?_ <;> first | (simp; done) | rfl) | with_reducible apply GBox.alloc)) b)
    try clear k0a k0b k0c k0d k0e k0z
    have k0z := K0.out.lt
    obtain ⟨k0a, k0b, k0c, k0d, k0e⟩ := K0.out.cell
    have O1 : Hid (OwnG w1 w0.heap.size w1.heap.size _ _ _ _ _ _) := Lib.hid (OwnG.base o1 (by first | exact Nat.le_refl _ | (simp; done) | (simp; omega)))
    have R1 := Lib.hid r1
    clear b o1 r1 f1
    have Yw1cK0 := Lib.hid K0.out.lt
    go_wp2_with fail
    refine ((to_claims cl q m k _ HCn.out (by omega) HRc.out)).mono ?_
    rintro e w1c ⟨qx1, kx1, rfl, ox1, rx1, hcx1, b⟩
    have HCx1 := Lib.hid hcx1
    clear hcx1
    have Sw1c : Hid (w1.heap.size ≤ w1c.heap.size) := Lib.hid (by first | exact b.size | (have h := b.size; simp at h; omega))
    have HB := Lib.hid (chain0 (w := w) (by repeat (first | with_reducible exact Below.refl _ _ | with_reducible exact HB.out | with_reducible apply Below.drew | with_reducible apply bdN | with_reducible refine Below.alloc ?_ (by first | exact Nat.le_refl _ | with_reducible exact HB.out.size | omega | (simp; done) | (simp; omega) | (have := HB.out.size; simp at *; omega)) _)) b)
    have Zw1c := Lib.hid HB.out.size
    have HR := Lib.hid (RdG.below (by repeat (first | with_reducible exact HR.out | with_reducible apply RdG.drewN | with_reducible apply RdG.drew | with_reducible apply RdG.alloc)) b)
    have HRc := Lib.hid (Rd.below (by repeat (first | with_reducible exact HRc.out | with_reducible apply Rd.drewN | with_reducible apply Rd.drew | with_reducible apply Rd.alloc)) b)
    have O1 := Lib.hid (OwnG.below (by repeat (first | with_reducible exact O1.out | with_reducible apply OwnG.drewN | with_reducible apply OwnG.drew | with_reducible apply OwnG.alloc)) b)
    have R1 := Lib.hid (RdG.below (by repeat (first | with_reducible exact R1.out | with_reducible apply RdG.drewN | with_reducible apply RdG.drew | with_reducible apply RdG.alloc)) b)
    have K0 : Hid (GBox _ (w.heap.size) (⟨27, s, nx, .slice p n c, .slice ps ns cs, .slice pw nw cw⟩)) := Lib.hid (GBox.below (by repeat (first | with_reducible exact K0.out | with_reducible apply GBox.drewN | with_reducible apply GBox.drew | (with_reducible refine GBox.newAt ?_ ?_ <;> first | (simp; done) | rfl) | with_reducible apply GBox.alloc)) b)
    try clear k0a k0b k0c k0d k0e k0z
    have k0z := K0.out.lt
    obtain ⟨k0a, k0b, k0c, k0d, k0e⟩ := K0.out.cell
    have Ox1 : Hid (OwnC w1c w1.heap.size w1c.heap.size _ _) := Lib.hid (OwnC.base ox1 (by first | exact Nat.le_refl _ | (simp; done) | (simp; omega)))
    have Rx1 := Lib.hid rx1
    clear b ox1 rx1
    have Yw2K0 := Lib.hid K0.out.lt
    go_wp2_with fail
    refine ((HSp.out p1 ps1 pw1 n c1 ns cs1 nw cw1 qx1 kx1 _ F1.out R1.out HCx1.out Rx1.out)).mono ?_
    rintro e w2 ⟨vla, vsa, vwa, rfl, oa, b⟩
    obtain ⟨pa, ca, psa, csa, pwa, cwa, rfl, rfl, rfl, ra, _⟩ := oa.form
    rw [HMm.out, HMs.out, HMw.out] at oa ⊢
    have Sw2 : Hid (w1c.heap.size ≤ w2.heap.size) := Lib.hid (by first | exact b.size | (have h := b.size; simp at h; omega))
    have HB := Lib.hid (chain0 (w := w) (by repeat (first | with_reducible exact Below.refl _ _ | with_reducible exact HB.out | with_reducible apply Below.drew | with_reducible apply bdN | with_reducible refine Below.alloc ?_ (by first | exact Nat.le_refl _ | with_reducible exact HB.out.size | omega | (simp; done) | (simp; omega) | (have := HB.out.size; simp at *; omega)) _)) b)
    have Zw2 := Lib.hid HB.out.size
    have HR := Lib.hid (RdG.below (by repeat (first | with_reducible exact HR.out | with_reducible apply RdG.drewN | with_reducible apply RdG.drew | with_reducible apply RdG.alloc)) b)
    have HRc := Lib.hid (Rd.below (by repeat (first | with_reducible exact HRc.out | with_reducible apply Rd.drewN | with_reducible apply Rd.drew | with_reducible apply Rd.alloc)) b)
    have O1 := Lib.hid (OwnG.below (by repeat (first | with_reducible exact O1.out | with_reducible apply OwnG.drewN | with_reducible apply OwnG.drew | with_reducible apply OwnG.alloc)) b)
    have R1 := Lib.hid (RdG.below (by repeat (first | with_reducible exact R1.out | with_reducible apply RdG.drewN | with_reducible apply RdG.drew | with_reducible apply RdG.alloc)) b)
    have Ox1 := Lib.hid (OwnC.below (by repeat (first | with_reducible exact Ox1.out | with_reducible apply OwnC.drewN | with_reducible apply OwnC.drew | with_reducible apply OwnC.alloc)) b)
    have Rx1 := Lib.hid (Rd.below (by repeat (first | with_reducible exact Rx1.out | with_reducible apply Rd.drewN | with_reducible apply Rd.drew | with_reducible apply Rd.alloc)) b)
    have K0 : Hid (GBox _ (w.heap.size) (⟨27, s, nx, .slice p n c, .slice ps ns cs, .slice pw nw cw⟩)) := Lib.hid (GBox.below (by repeat (first | with_reducible exact K0.out | with_reducible apply GBox.drewN | with_reducible apply GBox.drew | (with_reducible refine GBox.newAt ?_ ?_ <;> first | (simp; done) | rfl) | with_reducible apply GBox.alloc)) b)
    try clear k0a k0b k0c k0d k0e k0z
    have k0z := K0.out.lt
    obtain ⟨k0a, k0b, k0c, k0d, k0e⟩ := K0.out.cell
    have Oa : Hid (OwnG w2 w1c.heap.size w2.heap.size _ _ _ _ _ _) := Lib.hid (OwnG.base oa (by first | exact Nat.le_refl _ | (simp; done) | (simp; omega)))
    have Ra := Lib.hid ra
    clear b oa ra
    go_upto_region 9 with fail
    have K4 : Hid (GBox ((w2.alloc (Gv.obj ⟨33, s1, n1, .slice pa a1 ca, .slice psa a2 csa, .slice pwa a3 cwa⟩)).alloc (.cells #[.int .i64 r1.a, .int .i64 r1.b, .int .i64 r1.c, .int .i64 r1.d] 34)) w2.heap.size ⟨33, s1, n1, .slice pa a1 ca, .slice psa a2 csa, .slice pwa a3 cwa⟩) := Lib.hid ((GBox.newAt rfl rfl).alloc _)
    have KA4 : Hid (Box ((w2.alloc (Gv.obj ⟨33, s1, n1, .slice pa a1 ca, .slice psa a2 csa, .slice pwa a3 cwa⟩)).alloc (.cells #[.int .i64 r1.a, .int .i64 r1.b, .int .i64 r1.c, .int .i64 r1.d] 34)) (w2.heap.size + 1) r1) := Lib.hid (Box.newAt (x := r1) (o := .cells #[.int .i64 r1.a, .int .i64 r1.b, .int .i64 r1.c, .int .i64 r1.d] 34) (by simp) rfl)
    obtain ⟨g4, hg⟩ : ∃ g4, w2.heap.size = g4 := ⟨_, rfl⟩
    have HGg4 := Lib.hid hg
    rw [hg] at K4 KA4
    try rw [hg]
    clear hg
    obtain ⟨w2b, ew, b⟩ : ∃ wOPN : World, wOPN = ((w2.alloc (Gv.obj ⟨33, s1, n1, .slice pa a1 ca, .slice psa a2 csa, .slice pwa a3 cwa⟩)).alloc (.cells #[.int .i64 r1.a, .int .i64 r1.b, .int .i64 r1.c, .int .i64 r1.d] 34)) ∧ Below (((w2.alloc (Gv.obj ⟨33, s1, n1, .slice pa a1 ca, .slice psa a2 csa, .slice pwa a3 cwa⟩)).alloc (.cells #[.int .i64 r1.a, .int .i64 r1.b, .int .i64 r1.c, .int .i64 r1.d] 34))).heap.size (((w2.alloc (Gv.obj ⟨33, s1, n1, .slice pa a1 ca, .slice psa a2 csa, .slice pwa a3 cwa⟩)).alloc (.cells #[.int .i64 r1.a, .int .i64 r1.b, .int .i64 r1.c, .int .i64 r1.d] 34))) wOPN := ⟨_, rfl, Below.refl _ _⟩
    rw [← ew]
    clear ew
    have Sw2b : Hid (w2.heap.size ≤ w2b.heap.size) := Lib.hid (by first | exact b.size | (have h := b.size; simp at h; omega))
    have HB := Lib.hid (chain0 (w := w) (by repeat (first | with_reducible exact Below.refl _ _ | with_reducible exact HB.out | with_reducible apply Below.drew | with_reducible apply bdN | with_reducible refine Below.alloc ?_ (by first | exact Nat.le_refl _ | with_reducible exact HB.out.size | omega | (simp; done) | (simp; omega) | (have := HB.out.size; simp at *; omega)) _)) b)
    have HR := Lib.hid (RdG.below (by repeat (first | with_reducible exact HR.out | with_reducible apply RdG.drewN | with_reducible apply RdG.drew | with_reducible apply RdG.alloc)) b)
    have HRc := Lib.hid (Rd.below (by repeat (first | with_reducible exact HRc.out | with_reducible apply Rd.drewN | with_reducible apply Rd.drew | with_reducible apply Rd.alloc)) b)
    have O1 := Lib.hid (OwnG.below (by repeat (first | with_reducible exact O1.out | with_reducible apply OwnG.drewN | with_reducible apply OwnG.drew | with_reducible apply OwnG.alloc)) b)
    have R1 := Lib.hid (RdG.below (by repeat (first | with_reducible exact R1.out | with_reducible apply RdG.drewN | with_reducible apply RdG.drew | with_reducible apply RdG.alloc)) b)
    have Ox1 := Lib.hid (OwnC.below (by repeat (first | with_reducible exact Ox1.out | with_reducible apply OwnC.drewN | with_reducible apply OwnC.drew | with_reducible apply OwnC.alloc)) b)
    have Rx1 := Lib.hid (Rd.below (by repeat (first | with_reducible exact Rx1.out | with_reducible apply Rd.drewN | with_reducible apply Rd.drew | with_reducible apply Rd.alloc)) b)
    have Oa := Lib.hid (OwnG.below (by repeat (first | with_reducible exact Oa.out | with_reducible apply OwnG.drewN | with_reducible apply OwnG.drew | with_reducible apply OwnG.alloc)) b)
    have Ra := Lib.hid (RdG.below (by repeat (first | with_reducible exact Ra.out | with_reducible apply RdG.drewN | with_reducible apply RdG.drew | with_reducible apply RdG.alloc)) b)
    have K0 : Hid (GBox _ (w.heap.size) (⟨27, s, nx, .slice p n c, .slice ps ns cs, .slice pw nw cw⟩)) := Lib.hid (GBox.below (by repeat (first | with_reducible exact K0.out | with_reducible apply GBox.drewN | with_reducible apply GBox.drew | (with_reducible refine GBox.newAt ?_ ?_ <;> first | (simp; done) | rfl) | with_reducible apply GBox.alloc)) b)
    have K4 : Hid (GBox _ (g4) (⟨33, s1, n1, .slice pa a1 ca, .slice psa a2 csa, .slice pwa a3 cwa⟩)) := Lib.hid (GBox.below (by repeat (first | with_reducible exact K4.out | with_reducible apply GBox.drewN | with_reducible apply GBox.drew | (with_reducible refine GBox.newAt ?_ ?_ <;> first | (simp; done) | rfl) | with_reducible apply GBox.alloc)) b)
    have KA4 : Hid (Box _ (g4 + 1) (r1)) := Lib.hid (Box.below (by repeat (first | with_reducible exact KA4.out | with_reducible apply Box.drewN | with_reducible apply Box.drew | (with_reducible refine Box.newAt ?_ ?_ <;> first | (simp; done) | rfl) | with_reducible apply Box.alloc)) b)
    try clear k0a k0b k0c k0d k0e k0z
    have k0z := K0.out.lt
    obtain ⟨k0a, k0b, k0c, k0d, k0e⟩ := K0.out.cell
    try clear k4a k4b k4c k4d k4e k4z
    have k4z := K4.out.lt
    obtain ⟨k4a, k4b, k4c, k4d, k4e⟩ := K4.out.cell
    try clear ka4a ka4b ka4c ka4d ka4z
    have ka4z := KA4.out.lt
    obtain ⟨ka4a, ka4b, ka4c, ka4d⟩ := KA4.out.cell
    clear b
    have Gg4 := Lib.hid KA4.out.lt
    have Yw3K0 := Lib.hid K0.out.lt
    have Yw3K4 := Lib.hid K4.out.lt
    have Yw3KA4 := Lib.hid KA4.out.lt
    go_wp2_with fail
    refine ((to_game s nx l sc wt p ps pw n c ns cs nw cw _ HN.out HS.out HW.out (by omega) (by omega) (by omega) HWf.out HR.out)).mono ?_
    rintro e w3 ⟨p2, c2, ps2, cs2, pw2, cw2, rfl, o2, r2, f2, b⟩
    have F2 := Lib.hid f2
    have Sw3 : Hid (w2b.heap.size ≤ w3.heap.size) := Lib.hid (by first | exact b.size | (have h := b.size; simp at h; omega))
    have HB := Lib.hid (chain0 (w := w) (by repeat (first | with_reducible exact Below.refl _ _ | with_reducible exact HB.out | with_reducible apply Below.drew | with_reducible apply bdN | with_reducible refine Below.alloc ?_ (by first | exact Nat.le_refl _ | with_reducible exact HB.out.size | omega | (simp; done) | (simp; omega) | (have := HB.out.size; simp at *; omega)) _)) b)
    have Zw3 := Lib.hid HB.out.size
    have HR := Lib.hid (RdG.below (by repeat (first | with_reducible exact HR.out | with_reducible apply RdG.drewN | with_reducible apply RdG.drew | with_reducible apply RdG.alloc)) b)
    have HRc := Lib.hid (Rd.below (by repeat (first | with_reducible exact HRc.out | with_reducible apply Rd.drewN | with_reducible apply Rd.drew | with_reducible apply Rd.alloc)) b)
    have Oa := Lib.hid (OwnG.below (by repeat (first | with_reducible exact Oa.out | with_reducible apply OwnG.drewN | with_reducible apply OwnG.drew | with_reducible apply OwnG.alloc)) b)
    have Ra := Lib.hid (RdG.below (by repeat (first | with_reducible exact Ra.out | with_reducible apply RdG.drewN | with_reducible apply RdG.drew | with_reducible apply RdG.alloc)) b)
    have K0 : Hid (GBox _ (w.heap.size) (⟨27, s, nx, .slice p n c, .slice ps ns cs, .slice pw nw cw⟩)) := Lib.hid (GBox.below (by repeat (first | with_reducible exact K0.out | with_reducible apply GBox.drewN | with_reducible apply GBox.drew | (with_reducible refine GBox.newAt ?_ ?_ <;> first | (simp; done) | rfl) | with_reducible apply GBox.alloc)) b)
    have K4 : Hid (GBox _ (g4) (⟨33, s1, n1, .slice pa a1 ca, .slice psa a2 csa, .slice pwa a3 cwa⟩)) := Lib.hid (GBox.below (by repeat (first | with_reducible exact K4.out | with_reducible apply GBox.drewN | with_reducible apply GBox.drew | (with_reducible refine GBox.newAt ?_ ?_ <;> first | (simp; done) | rfl) | with_reducible apply GBox.alloc)) b)
    have KA4 : Hid (Box _ (g4 + 1) (r1)) := Lib.hid (Box.below (by repeat (first | with_reducible exact KA4.out | with_reducible apply Box.drewN | with_reducible apply Box.drew | (with_reducible refine Box.newAt ?_ ?_ <;> first | (simp; done) | rfl) | with_reducible apply Box.alloc)) b)
    try clear k0a k0b k0c k0d k0e k0z
    have k0z := K0.out.lt
    obtain ⟨k0a, k0b, k0c, k0d, k0e⟩ := K0.out.cell
    try clear k4a k4b k4c k4d k4e k4z
    have k4z := K4.out.lt
    obtain ⟨k4a, k4b, k4c, k4d, k4e⟩ := K4.out.cell
    try clear ka4a ka4b ka4c ka4d ka4z
    have ka4z := KA4.out.lt
    obtain ⟨ka4a, ka4b, ka4c, ka4d⟩ := KA4.out.cell
    have O2 : Hid (OwnG w3 w2b.heap.size w3.heap.size _ _ _ _ _ _) := Lib.hid (OwnG.base o2 (by first | exact Nat.le_refl _ | (simp; done) | (simp; omega)))
    have R2 := Lib.hid r2
    clear b o2 r2 f2
    go_upto_region 10 with fail
    have K6 : Hid (GBox (w3.alloc (Gv.obj (⟨33, s, nx, .slice p2 n c2, .slice ps2 ns cs2, .slice pw2 nw cw2⟩))) w3.heap.size (⟨33, s, nx, .slice p2 n c2, .slice ps2 ns cs2, .slice pw2 nw cw2⟩)) := Lib.hid (GBox.newAt rfl rfl)
    obtain ⟨g6, hg⟩ : ∃ g6, w3.heap.size = g6 := ⟨_, rfl⟩
    have HGg6 := Lib.hid hg
    rw [hg] at K6
    try rw [hg]
    clear hg
    obtain ⟨w3b, ew, b⟩ : ∃ wOPN : World, wOPN = (w3.alloc (Gv.obj (⟨33, s, nx, .slice p2 n c2, .slice ps2 ns cs2, .slice pw2 nw cw2⟩))) ∧ Below ((w3.alloc (Gv.obj (⟨33, s, nx, .slice p2 n c2, .slice ps2 ns cs2, .slice pw2 nw cw2⟩)))).heap.size ((w3.alloc (Gv.obj (⟨33, s, nx, .slice p2 n c2, .slice ps2 ns cs2, .slice pw2 nw cw2⟩)))) wOPN := ⟨_, rfl, Below.refl _ _⟩
    rw [← ew]
    clear ew
    have Sw3b : Hid (w3.heap.size ≤ w3b.heap.size) := Lib.hid (by first | exact b.size | (have h := b.size; simp at h; omega))
    have HB := Lib.hid (chain0 (w := w) (by repeat (first | with_reducible exact Below.refl _ _ | with_reducible exact HB.out | with_reducible apply Below.drew | with_reducible apply bdN | with_reducible refine Below.alloc ?_ (by first | exact Nat.le_refl _ | with_reducible exact HB.out.size | omega | (simp; done) | (simp; omega) | (have := HB.out.size; simp at *; omega)) _)) b)
    have HR := Lib.hid (RdG.below (by repeat (first | with_reducible exact HR.out | with_reducible apply RdG.drewN | with_reducible apply RdG.drew | with_reducible apply RdG.alloc)) b)
    have HRc := Lib.hid (Rd.below (by repeat (first | with_reducible exact HRc.out | with_reducible apply Rd.drewN | with_reducible apply Rd.drew | with_reducible apply Rd.alloc)) b)
    have Oa := Lib.hid (OwnG.below (by repeat (first | with_reducible exact Oa.out | with_reducible apply OwnG.drewN | with_reducible apply OwnG.drew | with_reducible apply OwnG.alloc)) b)
    have Ra := Lib.hid (RdG.below (by repeat (first | with_reducible exact Ra.out | with_reducible apply RdG.drewN | with_reducible apply RdG.drew | with_reducible apply RdG.alloc)) b)
    have O2 := Lib.hid (OwnG.below (by repeat (first | with_reducible exact O2.out | with_reducible apply OwnG.drewN | with_reducible apply OwnG.drew | with_reducible apply OwnG.alloc)) b)
    have R2 := Lib.hid (RdG.below (by repeat (first | with_reducible exact R2.out | with_reducible apply RdG.drewN | with_reducible apply RdG.drew | with_reducible apply RdG.alloc)) b)
    have K0 : Hid (GBox _ (w.heap.size) (⟨27, s, nx, .slice p n c, .slice ps ns cs, .slice pw nw cw⟩)) := Lib.hid (GBox.below (by repeat (first | with_reducible exact K0.out | with_reducible apply GBox.drewN | with_reducible apply GBox.drew | (with_reducible refine GBox.newAt ?_ ?_ <;> first | (simp; done) | rfl) | with_reducible apply GBox.alloc)) b)
    have K4 : Hid (GBox _ (g4) (⟨33, s1, n1, .slice pa a1 ca, .slice psa a2 csa, .slice pwa a3 cwa⟩)) := Lib.hid (GBox.below (by repeat (first | with_reducible exact K4.out | with_reducible apply GBox.drewN | with_reducible apply GBox.drew | (with_reducible refine GBox.newAt ?_ ?_ <;> first | (simp; done) | rfl) | with_reducible apply GBox.alloc)) b)
    have KA4 : Hid (Box _ (g4 + 1) (r1)) := Lib.hid (Box.below (by repeat (first | with_reducible exact KA4.out | with_reducible apply Box.drewN | with_reducible apply Box.drew | (with_reducible refine Box.newAt ?_ ?_ <;> first | (simp; done) | rfl) | with_reducible apply Box.alloc)) b)
    have K6 : Hid (GBox _ (g6) (⟨33, s, nx, .slice p2 n c2, .slice ps2 ns cs2, .slice pw2 nw cw2⟩)) := Lib.hid (GBox.below (by repeat (first | with_reducible exact K6.out | with_reducible apply GBox.drewN | with_reducible apply GBox.drew | (with_reducible refine GBox.newAt ?_ ?_ <;> first | (simp; done) | rfl) | with_reducible apply GBox.alloc)) b)
    try clear k0a k0b k0c k0d k0e k0z
    have k0z := K0.out.lt
    obtain ⟨k0a, k0b, k0c, k0d, k0e⟩ := K0.out.cell
    try clear k4a k4b k4c k4d k4e k4z
    have k4z := K4.out.lt
    obtain ⟨k4a, k4b, k4c, k4d, k4e⟩ := K4.out.cell
    try clear ka4a ka4b ka4c ka4d ka4z
    have ka4z := KA4.out.lt
    obtain ⟨ka4a, ka4b, ka4c, ka4d⟩ := KA4.out.cell
    try clear k6a k6b k6c k6d k6e k6z
    have k6z := K6.out.lt
    obtain ⟨k6a, k6b, k6c, k6d, k6e⟩ := K6.out.cell
    clear b
    have Gg6 := Lib.hid K6.out.lt
    have Yw3cK0 := Lib.hid K0.out.lt
    have Yw3cK4 := Lib.hid K4.out.lt
    have Yw3cKA4 := Lib.hid KA4.out.lt
    have Yw3cK6 := Lib.hid K6.out.lt
    go_wp2_with fail
    refine ((to_claims cl q m k _ HCn.out (by omega) HRc.out)).mono ?_
    rintro e w3c ⟨qx2, kx2, rfl, ox2, rx2, hcx2, b⟩
    have HCx2 := Lib.hid hcx2
    clear hcx2
    have Sw3c : Hid (w3b.heap.size ≤ w3c.heap.size) := Lib.hid (by first | exact b.size | (have h := b.size; simp at h; omega))
    have HB := Lib.hid (chain0 (w := w) (by repeat (first | with_reducible exact Below.refl _ _ | with_reducible exact HB.out | with_reducible apply Below.drew | with_reducible apply bdN | with_reducible refine Below.alloc ?_ (by first | exact Nat.le_refl _ | with_reducible exact HB.out.size | omega | (simp; done) | (simp; omega) | (have := HB.out.size; simp at *; omega)) _)) b)
    have Zw3c := Lib.hid HB.out.size
    have HR := Lib.hid (RdG.below (by repeat (first | with_reducible exact HR.out | with_reducible apply RdG.drewN | with_reducible apply RdG.drew | with_reducible apply RdG.alloc)) b)
    have HRc := Lib.hid (Rd.below (by repeat (first | with_reducible exact HRc.out | with_reducible apply Rd.drewN | with_reducible apply Rd.drew | with_reducible apply Rd.alloc)) b)
    have Oa := Lib.hid (OwnG.below (by repeat (first | with_reducible exact Oa.out | with_reducible apply OwnG.drewN | with_reducible apply OwnG.drew | with_reducible apply OwnG.alloc)) b)
    have Ra := Lib.hid (RdG.below (by repeat (first | with_reducible exact Ra.out | with_reducible apply RdG.drewN | with_reducible apply RdG.drew | with_reducible apply RdG.alloc)) b)
    have O2 := Lib.hid (OwnG.below (by repeat (first | with_reducible exact O2.out | with_reducible apply OwnG.drewN | with_reducible apply OwnG.drew | with_reducible apply OwnG.alloc)) b)
    have R2 := Lib.hid (RdG.below (by repeat (first | with_reducible exact R2.out | with_reducible apply RdG.drewN | with_reducible apply RdG.drew | with_reducible apply RdG.alloc)) b)
    have K0 : Hid (GBox _ (w.heap.size) (⟨27, s, nx, .slice p n c, .slice ps ns cs, .slice pw nw cw⟩)) := Lib.hid (GBox.below (by repeat (first | with_reducible exact K0.out | with_reducible apply GBox.drewN | with_reducible apply GBox.drew | (with_reducible refine GBox.newAt ?_ ?_ <;> first | (simp; done) | rfl) | with_reducible apply GBox.alloc)) b)
    have K4 : Hid (GBox _ (g4) (⟨33, s1, n1, .slice pa a1 ca, .slice psa a2 csa, .slice pwa a3 cwa⟩)) := Lib.hid (GBox.below (by repeat (first | with_reducible exact K4.out | with_reducible apply GBox.drewN | with_reducible apply GBox.drew | (with_reducible refine GBox.newAt ?_ ?_ <;> first | (simp; done) | rfl) | with_reducible apply GBox.alloc)) b)
    have KA4 : Hid (Box _ (g4 + 1) (r1)) := Lib.hid (Box.below (by repeat (first | with_reducible exact KA4.out | with_reducible apply Box.drewN | with_reducible apply Box.drew | (with_reducible refine Box.newAt ?_ ?_ <;> first | (simp; done) | rfl) | with_reducible apply Box.alloc)) b)
    have K6 : Hid (GBox _ (g6) (⟨33, s, nx, .slice p2 n c2, .slice ps2 ns cs2, .slice pw2 nw cw2⟩)) := Lib.hid (GBox.below (by repeat (first | with_reducible exact K6.out | with_reducible apply GBox.drewN | with_reducible apply GBox.drew | (with_reducible refine GBox.newAt ?_ ?_ <;> first | (simp; done) | rfl) | with_reducible apply GBox.alloc)) b)
    try clear k0a k0b k0c k0d k0e k0z
    have k0z := K0.out.lt
    obtain ⟨k0a, k0b, k0c, k0d, k0e⟩ := K0.out.cell
    try clear k4a k4b k4c k4d k4e k4z
    have k4z := K4.out.lt
    obtain ⟨k4a, k4b, k4c, k4d, k4e⟩ := K4.out.cell
    try clear ka4a ka4b ka4c ka4d ka4z
    have ka4z := KA4.out.lt
    obtain ⟨ka4a, ka4b, ka4c, ka4d⟩ := KA4.out.cell
    try clear k6a k6b k6c k6d k6e k6z
    have k6z := K6.out.lt
    obtain ⟨k6a, k6b, k6c, k6d, k6e⟩ := K6.out.cell
    have Ox2 : Hid (OwnC w3c w3b.heap.size w3c.heap.size _ _) := Lib.hid (OwnC.base ox2 (by first | exact Nat.le_refl _ | (simp; done) | (simp; omega)))
    have Rx2 := Lib.hid rx2
    clear b ox2 rx2
    have Yw4K0 := Lib.hid K0.out.lt
    have Yw4K4 := Lib.hid K4.out.lt
    have Yw4KA4 := Lib.hid KA4.out.lt
    have Yw4K6 := Lib.hid K6.out.lt
    go_wp2_with fail
    refine ((HIm.out p2 ps2 pw2 n c2 ns cs2 nw cw2 qx2 kx2 _ F2.out R2.out HCx2.out Rx2.out)).mono ?_
    rintro e w4 ⟨vlb, vsb, vwb, rfl, ob, b⟩
    obtain ⟨pb, cb, psb, csb, pwb, cwb, rfl, rfl, rfl, rb, _⟩ := ob.form
    rw [HMm.out, HMs.out, HMw.out] at ob ⊢
    have Sw4 : Hid (w3c.heap.size ≤ w4.heap.size) := Lib.hid (by first | exact b.size | (have h := b.size; simp at h; omega))
    have HB := Lib.hid (chain0 (w := w) (by repeat (first | with_reducible exact Below.refl _ _ | with_reducible exact HB.out | with_reducible apply Below.drew | with_reducible apply bdN | with_reducible refine Below.alloc ?_ (by first | exact Nat.le_refl _ | with_reducible exact HB.out.size | omega | (simp; done) | (simp; omega) | (have := HB.out.size; simp at *; omega)) _)) b)
    have Zw4 := Lib.hid HB.out.size
    have HR := Lib.hid (RdG.below (by repeat (first | with_reducible exact HR.out | with_reducible apply RdG.drewN | with_reducible apply RdG.drew | with_reducible apply RdG.alloc)) b)
    have HRc := Lib.hid (Rd.below (by repeat (first | with_reducible exact HRc.out | with_reducible apply Rd.drewN | with_reducible apply Rd.drew | with_reducible apply Rd.alloc)) b)
    have Oa := Lib.hid (OwnG.below (by repeat (first | with_reducible exact Oa.out | with_reducible apply OwnG.drewN | with_reducible apply OwnG.drew | with_reducible apply OwnG.alloc)) b)
    have Ra := Lib.hid (RdG.below (by repeat (first | with_reducible exact Ra.out | with_reducible apply RdG.drewN | with_reducible apply RdG.drew | with_reducible apply RdG.alloc)) b)
    have O2 := Lib.hid (OwnG.below (by repeat (first | with_reducible exact O2.out | with_reducible apply OwnG.drewN | with_reducible apply OwnG.drew | with_reducible apply OwnG.alloc)) b)
    have R2 := Lib.hid (RdG.below (by repeat (first | with_reducible exact R2.out | with_reducible apply RdG.drewN | with_reducible apply RdG.drew | with_reducible apply RdG.alloc)) b)
    have Ox2 := Lib.hid (OwnC.below (by repeat (first | with_reducible exact Ox2.out | with_reducible apply OwnC.drewN | with_reducible apply OwnC.drew | with_reducible apply OwnC.alloc)) b)
    have Rx2 := Lib.hid (Rd.below (by repeat (first | with_reducible exact Rx2.out | with_reducible apply Rd.drewN | with_reducible apply Rd.drew | with_reducible apply Rd.alloc)) b)
    have K0 : Hid (GBox _ (w.heap.size) (⟨27, s, nx, .slice p n c, .slice ps ns cs, .slice pw nw cw⟩)) := Lib.hid (GBox.below (by repeat (first | with_reducible exact K0.out | with_reducible apply GBox.drewN | with_reducible apply GBox.drew | (with_reducible refine GBox.newAt ?_ ?_ <;> first | (simp; done) | rfl) | with_reducible apply GBox.alloc)) b)
    have K4 : Hid (GBox _ (g4) (⟨33, s1, n1, .slice pa a1 ca, .slice psa a2 csa, .slice pwa a3 cwa⟩)) := Lib.hid (GBox.below (by repeat (first | with_reducible exact K4.out | with_reducible apply GBox.drewN | with_reducible apply GBox.drew | (with_reducible refine GBox.newAt ?_ ?_ <;> first | (simp; done) | rfl) | with_reducible apply GBox.alloc)) b)
    have KA4 : Hid (Box _ (g4 + 1) (r1)) := Lib.hid (Box.below (by repeat (first | with_reducible exact KA4.out | with_reducible apply Box.drewN | with_reducible apply Box.drew | (with_reducible refine Box.newAt ?_ ?_ <;> first | (simp; done) | rfl) | with_reducible apply Box.alloc)) b)
    have K6 : Hid (GBox _ (g6) (⟨33, s, nx, .slice p2 n c2, .slice ps2 ns cs2, .slice pw2 nw cw2⟩)) := Lib.hid (GBox.below (by repeat (first | with_reducible exact K6.out | with_reducible apply GBox.drewN | with_reducible apply GBox.drew | (with_reducible refine GBox.newAt ?_ ?_ <;> first | (simp; done) | rfl) | with_reducible apply GBox.alloc)) b)
    try clear k0a k0b k0c k0d k0e k0z
    have k0z := K0.out.lt
    obtain ⟨k0a, k0b, k0c, k0d, k0e⟩ := K0.out.cell
    try clear k4a k4b k4c k4d k4e k4z
    have k4z := K4.out.lt
    obtain ⟨k4a, k4b, k4c, k4d, k4e⟩ := K4.out.cell
    try clear ka4a ka4b ka4c ka4d ka4z
    have ka4z := KA4.out.lt
    obtain ⟨ka4a, ka4b, ka4c, ka4d⟩ := KA4.out.cell
    try clear k6a k6b k6c k6d k6e k6z
    have k6z := K6.out.lt
    obtain ⟨k6a, k6b, k6c, k6d, k6e⟩ := K6.out.cell
    have Ob : Hid (OwnG w4 w3c.heap.size w4.heap.size _ _ _ _ _ _) := Lib.hid (OwnG.base ob (by first | exact Nat.le_refl _ | (simp; done) | (simp; omega)))
    have Rb := Lib.hid rb
    clear b ob rb
    go_upto_region 12 with fail
    have K7 : Hid (GBox ((w4.alloc (Gv.obj ⟨33, s1, n1, .slice pb a1 cb, .slice psb a2 csb, .slice pwb a3 cwb⟩)).alloc (.cells #[.int .i64 r1.a, .int .i64 r1.b, .int .i64 r1.c, .int .i64 r1.d] 34)) w4.heap.size ⟨33, s1, n1, .slice pb a1 cb, .slice psb a2 csb, .slice pwb a3 cwb⟩) := Lib.hid ((GBox.newAt rfl rfl).alloc _)
    have KA7 : Hid (Box ((w4.alloc (Gv.obj ⟨33, s1, n1, .slice pb a1 cb, .slice psb a2 csb, .slice pwb a3 cwb⟩)).alloc (.cells #[.int .i64 r1.a, .int .i64 r1.b, .int .i64 r1.c, .int .i64 r1.d] 34)) (w4.heap.size + 1) r1) := Lib.hid (Box.newAt (x := r1) (o := .cells #[.int .i64 r1.a, .int .i64 r1.b, .int .i64 r1.c, .int .i64 r1.d] 34) (by simp) rfl)
    obtain ⟨g7, hg⟩ : ∃ g7, w4.heap.size = g7 := ⟨_, rfl⟩
    have HGg7 := Lib.hid hg
    rw [hg] at K7 KA7
    try rw [hg]
    clear hg
    obtain ⟨w4b, ew, b⟩ : ∃ wOPN : World, wOPN = ((w4.alloc (Gv.obj ⟨33, s1, n1, .slice pb a1 cb, .slice psb a2 csb, .slice pwb a3 cwb⟩)).alloc (.cells #[.int .i64 r1.a, .int .i64 r1.b, .int .i64 r1.c, .int .i64 r1.d] 34)) ∧ Below (((w4.alloc (Gv.obj ⟨33, s1, n1, .slice pb a1 cb, .slice psb a2 csb, .slice pwb a3 cwb⟩)).alloc (.cells #[.int .i64 r1.a, .int .i64 r1.b, .int .i64 r1.c, .int .i64 r1.d] 34))).heap.size (((w4.alloc (Gv.obj ⟨33, s1, n1, .slice pb a1 cb, .slice psb a2 csb, .slice pwb a3 cwb⟩)).alloc (.cells #[.int .i64 r1.a, .int .i64 r1.b, .int .i64 r1.c, .int .i64 r1.d] 34))) wOPN := ⟨_, rfl, Below.refl _ _⟩
    rw [← ew]
    clear ew
    have Sw4b : Hid (w4.heap.size ≤ w4b.heap.size) := Lib.hid (by first | exact b.size | (have h := b.size; simp at h; omega))
    have HB := Lib.hid (chain0 (w := w) (by repeat (first | with_reducible exact Below.refl _ _ | with_reducible exact HB.out | with_reducible apply Below.drew | with_reducible apply bdN | with_reducible refine Below.alloc ?_ (by first | exact Nat.le_refl _ | with_reducible exact HB.out.size | omega | (simp; done) | (simp; omega) | (have := HB.out.size; simp at *; omega)) _)) b)
    have HR := Lib.hid (RdG.below (by repeat (first | with_reducible exact HR.out | with_reducible apply RdG.drewN | with_reducible apply RdG.drew | with_reducible apply RdG.alloc)) b)
    have HRc := Lib.hid (Rd.below (by repeat (first | with_reducible exact HRc.out | with_reducible apply Rd.drewN | with_reducible apply Rd.drew | with_reducible apply Rd.alloc)) b)
    have Oa := Lib.hid (OwnG.below (by repeat (first | with_reducible exact Oa.out | with_reducible apply OwnG.drewN | with_reducible apply OwnG.drew | with_reducible apply OwnG.alloc)) b)
    have Ra := Lib.hid (RdG.below (by repeat (first | with_reducible exact Ra.out | with_reducible apply RdG.drewN | with_reducible apply RdG.drew | with_reducible apply RdG.alloc)) b)
    have O2 := Lib.hid (OwnG.below (by repeat (first | with_reducible exact O2.out | with_reducible apply OwnG.drewN | with_reducible apply OwnG.drew | with_reducible apply OwnG.alloc)) b)
    have R2 := Lib.hid (RdG.below (by repeat (first | with_reducible exact R2.out | with_reducible apply RdG.drewN | with_reducible apply RdG.drew | with_reducible apply RdG.alloc)) b)
    have Ox2 := Lib.hid (OwnC.below (by repeat (first | with_reducible exact Ox2.out | with_reducible apply OwnC.drewN | with_reducible apply OwnC.drew | with_reducible apply OwnC.alloc)) b)
    have Rx2 := Lib.hid (Rd.below (by repeat (first | with_reducible exact Rx2.out | with_reducible apply Rd.drewN | with_reducible apply Rd.drew | with_reducible apply Rd.alloc)) b)
    have Ob := Lib.hid (OwnG.below (by repeat (first | with_reducible exact Ob.out | with_reducible apply OwnG.drewN | with_reducible apply OwnG.drew | with_reducible apply OwnG.alloc)) b)
    have Rb := Lib.hid (RdG.below (by repeat (first | with_reducible exact Rb.out | with_reducible apply RdG.drewN | with_reducible apply RdG.drew | with_reducible apply RdG.alloc)) b)
    have K0 : Hid (GBox _ (w.heap.size) (⟨27, s, nx, .slice p n c, .slice ps ns cs, .slice pw nw cw⟩)) := Lib.hid (GBox.below (by repeat (first | with_reducible exact K0.out | with_reducible apply GBox.drewN | with_reducible apply GBox.drew | (with_reducible refine GBox.newAt ?_ ?_ <;> first | (simp; done) | rfl) | with_reducible apply GBox.alloc)) b)
    have K4 : Hid (GBox _ (g4) (⟨33, s1, n1, .slice pa a1 ca, .slice psa a2 csa, .slice pwa a3 cwa⟩)) := Lib.hid (GBox.below (by repeat (first | with_reducible exact K4.out | with_reducible apply GBox.drewN | with_reducible apply GBox.drew | (with_reducible refine GBox.newAt ?_ ?_ <;> first | (simp; done) | rfl) | with_reducible apply GBox.alloc)) b)
    have KA4 : Hid (Box _ (g4 + 1) (r1)) := Lib.hid (Box.below (by repeat (first | with_reducible exact KA4.out | with_reducible apply Box.drewN | with_reducible apply Box.drew | (with_reducible refine Box.newAt ?_ ?_ <;> first | (simp; done) | rfl) | with_reducible apply Box.alloc)) b)
    have K6 : Hid (GBox _ (g6) (⟨33, s, nx, .slice p2 n c2, .slice ps2 ns cs2, .slice pw2 nw cw2⟩)) := Lib.hid (GBox.below (by repeat (first | with_reducible exact K6.out | with_reducible apply GBox.drewN | with_reducible apply GBox.drew | (with_reducible refine GBox.newAt ?_ ?_ <;> first | (simp; done) | rfl) | with_reducible apply GBox.alloc)) b)
    have K7 : Hid (GBox _ (g7) (⟨33, s1, n1, .slice pb a1 cb, .slice psb a2 csb, .slice pwb a3 cwb⟩)) := Lib.hid (GBox.below (by repeat (first | with_reducible exact K7.out | with_reducible apply GBox.drewN | with_reducible apply GBox.drew | (with_reducible refine GBox.newAt ?_ ?_ <;> first | (simp; done) | rfl) | with_reducible apply GBox.alloc)) b)
    have KA7 : Hid (Box _ (g7 + 1) (r1)) := Lib.hid (Box.below (by repeat (first | with_reducible exact KA7.out | with_reducible apply Box.drewN | with_reducible apply Box.drew | (with_reducible refine Box.newAt ?_ ?_ <;> first | (simp; done) | rfl) | with_reducible apply Box.alloc)) b)
    try clear k0a k0b k0c k0d k0e k0z
    have k0z := K0.out.lt
    obtain ⟨k0a, k0b, k0c, k0d, k0e⟩ := K0.out.cell
    try clear k4a k4b k4c k4d k4e k4z
    have k4z := K4.out.lt
    obtain ⟨k4a, k4b, k4c, k4d, k4e⟩ := K4.out.cell
    try clear ka4a ka4b ka4c ka4d ka4z
    have ka4z := KA4.out.lt
    obtain ⟨ka4a, ka4b, ka4c, ka4d⟩ := KA4.out.cell
    try clear k6a k6b k6c k6d k6e k6z
    have k6z := K6.out.lt
    obtain ⟨k6a, k6b, k6c, k6d, k6e⟩ := K6.out.cell
    try clear k7a k7b k7c k7d k7e k7z
    have k7z := K7.out.lt
    obtain ⟨k7a, k7b, k7c, k7d, k7e⟩ := K7.out.cell
    try clear ka7a ka7b ka7c ka7d ka7z
    have ka7z := KA7.out.lt
    obtain ⟨ka7a, ka7b, ka7c, ka7d⟩ := KA7.out.cell
    clear b
    have Gg7 := Lib.hid KA7.out.lt
    go_wp2_with fail
    refine ((eq_game s1 n1 L SC WR pb psb pwb pa psa pwa a1 cb ca a2 csb csa a3 cwb cwa _ HMm.out HMs.out HMw.out (by omega) (by omega) (by omega) Rb.out Ra.out)).mono ?_
    rintro e w5 ⟨rfl, b⟩
    have Sw5 : Hid (w4b.heap.size ≤ w5.heap.size) := Lib.hid (by first | exact b.size | (have h := b.size; simp at h; omega))
    have HB := Lib.hid (chain0 (w := w) (by repeat (first | with_reducible exact Below.refl _ _ | with_reducible exact HB.out | with_reducible apply Below.drew | with_reducible apply bdN | with_reducible refine Below.alloc ?_ (by first | exact Nat.le_refl _ | with_reducible exact HB.out.size | omega | (simp; done) | (simp; omega) | (have := HB.out.size; simp at *; omega)) _)) b)
    have HR := Lib.hid (RdG.below (by repeat (first | with_reducible exact HR.out | with_reducible apply RdG.drewN | with_reducible apply RdG.drew | with_reducible apply RdG.alloc)) b)
    have HRc := Lib.hid (Rd.below (by repeat (first | with_reducible exact HRc.out | with_reducible apply Rd.drewN | with_reducible apply Rd.drew | with_reducible apply Rd.alloc)) b)
    have Oa := Lib.hid (OwnG.below (by repeat (first | with_reducible exact Oa.out | with_reducible apply OwnG.drewN | with_reducible apply OwnG.drew | with_reducible apply OwnG.alloc)) b)
    have Ra := Lib.hid (RdG.below (by repeat (first | with_reducible exact Ra.out | with_reducible apply RdG.drewN | with_reducible apply RdG.drew | with_reducible apply RdG.alloc)) b)
    have O2 := Lib.hid (OwnG.below (by repeat (first | with_reducible exact O2.out | with_reducible apply OwnG.drewN | with_reducible apply OwnG.drew | with_reducible apply OwnG.alloc)) b)
    have R2 := Lib.hid (RdG.below (by repeat (first | with_reducible exact R2.out | with_reducible apply RdG.drewN | with_reducible apply RdG.drew | with_reducible apply RdG.alloc)) b)
    have Ox2 := Lib.hid (OwnC.below (by repeat (first | with_reducible exact Ox2.out | with_reducible apply OwnC.drewN | with_reducible apply OwnC.drew | with_reducible apply OwnC.alloc)) b)
    have Rx2 := Lib.hid (Rd.below (by repeat (first | with_reducible exact Rx2.out | with_reducible apply Rd.drewN | with_reducible apply Rd.drew | with_reducible apply Rd.alloc)) b)
    have Ob := Lib.hid (OwnG.below (by repeat (first | with_reducible exact Ob.out | with_reducible apply OwnG.drewN | with_reducible apply OwnG.drew | with_reducible apply OwnG.alloc)) b)
    have Rb := Lib.hid (RdG.below (by repeat (first | with_reducible exact Rb.out | with_reducible apply RdG.drewN | with_reducible apply RdG.drew | with_reducible apply RdG.alloc)) b)
    have K0 : Hid (GBox _ (w.heap.size) (⟨27, s, nx, .slice p n c, .slice ps ns cs, .slice pw nw cw⟩)) := Lib.hid (GBox.below (by repeat (first | with_reducible exact K0.out | with_reducible apply GBox.drewN | with_reducible apply GBox.drew | (with_reducible refine GBox.newAt ?_ ?_ <;> first | (simp; done) | rfl) | with_reducible apply GBox.alloc)) b)
    have K4 : Hid (GBox _ (g4) (⟨33, s1, n1, .slice pa a1 ca, .slice psa a2 csa, .slice pwa a3 cwa⟩)) := Lib.hid (GBox.below (by repeat (first | with_reducible exact K4.out | with_reducible apply GBox.drewN | with_reducible apply GBox.drew | (with_reducible refine GBox.newAt ?_ ?_ <;> first | (simp; done) | rfl) | with_reducible apply GBox.alloc)) b)
    have KA4 : Hid (Box _ (g4 + 1) (r1)) := Lib.hid (Box.below (by repeat (first | with_reducible exact KA4.out | with_reducible apply Box.drewN | with_reducible apply Box.drew | (with_reducible refine Box.newAt ?_ ?_ <;> first | (simp; done) | rfl) | with_reducible apply Box.alloc)) b)
    have K6 : Hid (GBox _ (g6) (⟨33, s, nx, .slice p2 n c2, .slice ps2 ns cs2, .slice pw2 nw cw2⟩)) := Lib.hid (GBox.below (by repeat (first | with_reducible exact K6.out | with_reducible apply GBox.drewN | with_reducible apply GBox.drew | (with_reducible refine GBox.newAt ?_ ?_ <;> first | (simp; done) | rfl) | with_reducible apply GBox.alloc)) b)
    have K7 : Hid (GBox _ (g7) (⟨33, s1, n1, .slice pb a1 cb, .slice psb a2 csb, .slice pwb a3 cwb⟩)) := Lib.hid (GBox.below (by repeat (first | with_reducible exact K7.out | with_reducible apply GBox.drewN | with_reducible apply GBox.drew | (with_reducible refine GBox.newAt ?_ ?_ <;> first | (simp; done) | rfl) | with_reducible apply GBox.alloc)) b)
    have KA7 : Hid (Box _ (g7 + 1) (r1)) := Lib.hid (Box.below (by repeat (first | with_reducible exact KA7.out | with_reducible apply Box.drewN | with_reducible apply Box.drew | (with_reducible refine Box.newAt ?_ ?_ <;> first | (simp; done) | rfl) | with_reducible apply Box.alloc)) b)
    try clear k0a k0b k0c k0d k0e k0z
    have k0z := K0.out.lt
    obtain ⟨k0a, k0b, k0c, k0d, k0e⟩ := K0.out.cell
    try clear k4a k4b k4c k4d k4e k4z
    have k4z := K4.out.lt
    obtain ⟨k4a, k4b, k4c, k4d, k4e⟩ := K4.out.cell
    try clear ka4a ka4b ka4c ka4d ka4z
    have ka4z := KA4.out.lt
    obtain ⟨ka4a, ka4b, ka4c, ka4d⟩ := KA4.out.cell
    try clear k6a k6b k6c k6d k6e k6z
    have k6z := K6.out.lt
    obtain ⟨k6a, k6b, k6c, k6d, k6e⟩ := K6.out.cell
    try clear k7a k7b k7c k7d k7e k7z
    have k7z := K7.out.lt
    obtain ⟨k7a, k7b, k7c, k7d, k7e⟩ := K7.out.cell
    try clear ka7a ka7b ka7c ka7d ka7z
    have ka7z := KA7.out.lt
    obtain ⟨ka7a, ka7b, ka7c, ka7d⟩ := KA7.out.cell
    clear b
    go_wp2_with fail
    refine ((HE4.out _)).mono ?_
    rintro e w5a ⟨rfl, b⟩
    have Sw5a : Hid (w5.heap.size ≤ w5a.heap.size) := Lib.hid (by first | exact b.size | (have h := b.size; simp at h; omega))
    have HB := Lib.hid (chain0 (w := w) (by repeat (first | with_reducible exact Below.refl _ _ | with_reducible exact HB.out | with_reducible apply Below.drew | with_reducible apply bdN | with_reducible refine Below.alloc ?_ (by first | exact Nat.le_refl _ | with_reducible exact HB.out.size | omega | (simp; done) | (simp; omega) | (have := HB.out.size; simp at *; omega)) _)) b)
    have HR := Lib.hid (RdG.below (by repeat (first | with_reducible exact HR.out | with_reducible apply RdG.drewN | with_reducible apply RdG.drew | with_reducible apply RdG.alloc)) b)
    have HRc := Lib.hid (Rd.below (by repeat (first | with_reducible exact HRc.out | with_reducible apply Rd.drewN | with_reducible apply Rd.drew | with_reducible apply Rd.alloc)) b)
    have Oa := Lib.hid (OwnG.below (by repeat (first | with_reducible exact Oa.out | with_reducible apply OwnG.drewN | with_reducible apply OwnG.drew | with_reducible apply OwnG.alloc)) b)
    have Ra := Lib.hid (RdG.below (by repeat (first | with_reducible exact Ra.out | with_reducible apply RdG.drewN | with_reducible apply RdG.drew | with_reducible apply RdG.alloc)) b)
    have O2 := Lib.hid (OwnG.below (by repeat (first | with_reducible exact O2.out | with_reducible apply OwnG.drewN | with_reducible apply OwnG.drew | with_reducible apply OwnG.alloc)) b)
    have R2 := Lib.hid (RdG.below (by repeat (first | with_reducible exact R2.out | with_reducible apply RdG.drewN | with_reducible apply RdG.drew | with_reducible apply RdG.alloc)) b)
    have Ox2 := Lib.hid (OwnC.below (by repeat (first | with_reducible exact Ox2.out | with_reducible apply OwnC.drewN | with_reducible apply OwnC.drew | with_reducible apply OwnC.alloc)) b)
    have Rx2 := Lib.hid (Rd.below (by repeat (first | with_reducible exact Rx2.out | with_reducible apply Rd.drewN | with_reducible apply Rd.drew | with_reducible apply Rd.alloc)) b)
    have Ob := Lib.hid (OwnG.below (by repeat (first | with_reducible exact Ob.out | with_reducible apply OwnG.drewN | with_reducible apply OwnG.drew | with_reducible apply OwnG.alloc)) b)
    have Rb := Lib.hid (RdG.below (by repeat (first | with_reducible exact Rb.out | with_reducible apply RdG.drewN | with_reducible apply RdG.drew | with_reducible apply RdG.alloc)) b)
    have K0 : Hid (GBox _ (w.heap.size) (⟨27, s, nx, .slice p n c, .slice ps ns cs, .slice pw nw cw⟩)) := Lib.hid (GBox.below (by repeat (first | with_reducible exact K0.out | with_reducible apply GBox.drewN | with_reducible apply GBox.drew | (with_reducible refine GBox.newAt ?_ ?_ <;> first | (simp; done) | rfl) | with_reducible apply GBox.alloc)) b)
    have K4 : Hid (GBox _ (g4) (⟨33, s1, n1, .slice pa a1 ca, .slice psa a2 csa, .slice pwa a3 cwa⟩)) := Lib.hid (GBox.below (by repeat (first | with_reducible exact K4.out | with_reducible apply GBox.drewN | with_reducible apply GBox.drew | (with_reducible refine GBox.newAt ?_ ?_ <;> first | (simp; done) | rfl) | with_reducible apply GBox.alloc)) b)
    have KA4 : Hid (Box _ (g4 + 1) (r1)) := Lib.hid (Box.below (by repeat (first | with_reducible exact KA4.out | with_reducible apply Box.drewN | with_reducible apply Box.drew | (with_reducible refine Box.newAt ?_ ?_ <;> first | (simp; done) | rfl) | with_reducible apply Box.alloc)) b)
    have K6 : Hid (GBox _ (g6) (⟨33, s, nx, .slice p2 n c2, .slice ps2 ns cs2, .slice pw2 nw cw2⟩)) := Lib.hid (GBox.below (by repeat (first | with_reducible exact K6.out | with_reducible apply GBox.drewN | with_reducible apply GBox.drew | (with_reducible refine GBox.newAt ?_ ?_ <;> first | (simp; done) | rfl) | with_reducible apply GBox.alloc)) b)
    have K7 : Hid (GBox _ (g7) (⟨33, s1, n1, .slice pb a1 cb, .slice psb a2 csb, .slice pwb a3 cwb⟩)) := Lib.hid (GBox.below (by repeat (first | with_reducible exact K7.out | with_reducible apply GBox.drewN | with_reducible apply GBox.drew | (with_reducible refine GBox.newAt ?_ ?_ <;> first | (simp; done) | rfl) | with_reducible apply GBox.alloc)) b)
    have KA7 : Hid (Box _ (g7 + 1) (r1)) := Lib.hid (Box.below (by repeat (first | with_reducible exact KA7.out | with_reducible apply Box.drewN | with_reducible apply Box.drew | (with_reducible refine Box.newAt ?_ ?_ <;> first | (simp; done) | rfl) | with_reducible apply Box.alloc)) b)
    try clear k0a k0b k0c k0d k0e k0z
    have k0z := K0.out.lt
    obtain ⟨k0a, k0b, k0c, k0d, k0e⟩ := K0.out.cell
    try clear k4a k4b k4c k4d k4e k4z
    have k4z := K4.out.lt
    obtain ⟨k4a, k4b, k4c, k4d, k4e⟩ := K4.out.cell
    try clear ka4a ka4b ka4c ka4d ka4z
    have ka4z := KA4.out.lt
    obtain ⟨ka4a, ka4b, ka4c, ka4d⟩ := KA4.out.cell
    try clear k6a k6b k6c k6d k6e k6z
    have k6z := K6.out.lt
    obtain ⟨k6a, k6b, k6c, k6d, k6e⟩ := K6.out.cell
    try clear k7a k7b k7c k7d k7e k7z
    have k7z := K7.out.lt
    obtain ⟨k7a, k7b, k7c, k7d, k7e⟩ := K7.out.cell
    try clear ka7a ka7b ka7c ka7d ka7z
    have ka7z := KA7.out.lt
    obtain ⟨ka7a, ka7b, ka7c, ka7d⟩ := KA7.out.cell
    clear b
    go_upto_region 14 with fail
    refine region_BI [(true, 0), (true, 1), (false, 2), (false, 3), (true, 4)] (by kernel_rfl) rfl (by kernel_rfl) ?_
    refine chain_load 65 rfl rfl rfl 33 _ rfl rfl #[.int .i64 s, .int .i64 nx, .slice p2 n c2, .slice ps2 ns cs2, .slice pw2 nw cw2] (fun w h => GBox.below K6.out h) Try.underlying33 rfl (by kernel_rfl) ?_
    refine chain_load 66 rfl rfl rfl 27 _ rfl rfl #[.int .i64 s, .int .i64 nx, .slice p n c, .slice ps ns cs, .slice pw nw cw] (fun w h => GBox.below K0.out h) Try.underlying27 rfl (by kernel_rfl) ?_
    refine chain_callE 67 rfl rfl rfl (fun w => by kernel_rfl) (fun wy hy => (to_game s nx l sc wt p ps pw n c ns cs nw cw wy HN.out HS.out HW.out (by omega) (by omega) (by omega) HWf.out (RdG.below HR.out hy)).mono ?_)
    rintro e wz ⟨p3, c3, ps3, cs3, pw3, cw3, rfl, o3, r3, f3, b⟩
    refine ⟨_, rfl, b, fun w' => BI w5a w' ∧ RdG w' p3 ps3 pw3 l sc wt, ⟨fun _ h => h.1, fun _ h => h.1.size, fun _ h => ⟨Below.alloc h.1 h.1.size _, RdG.alloc h.2 _⟩⟩, ⟨BI.next hy b, r3⟩, ?_⟩
    clear b r3 o3 f3 hy
    refine chain_callE 68 rfl rfl rfl (fun w => by kernel_rfl) (fun wy hy => (eq_game s nx l sc wt p2 ps2 pw2 p3 ps3 pw3 n c2 c3 ns cs2 cs3 nw cw2 cw3 wy HN.out HS.out HW.out (by omega) (by omega) (by omega) (RdG.below R2.out hy.1) hy.2).mono ?_)
    rintro e wz ⟨rfl, b⟩
    refine ⟨_, rfl, b, fun w' => BI w5a w', ⟨fun _ h => h, fun _ h => h.size, fun _ h => Below.alloc h h.size _⟩, BI.next hy.1 b, ?_⟩
    clear b hy
    refine chain_pure 69 (v := .bool false) rfl rfl rfl (fun w => by kernel_rfl) ?_
    clear wy wz
    intro w7 hI
    have b : Below w5a.heap.size w5a w7 := hI
    clear hI
    have Sw7 : Hid (w5a.heap.size ≤ w7.heap.size) := Lib.hid (by first | exact b.size | (have h := b.size; simp at h; omega))
    have HB := Lib.hid (chain0 (w := w) (by repeat (first | with_reducible exact Below.refl _ _ | with_reducible exact HB.out | with_reducible apply Below.drew | with_reducible apply bdN | with_reducible refine Below.alloc ?_ (by first | exact Nat.le_refl _ | with_reducible exact HB.out.size | omega | (simp; done) | (simp; omega) | (have := HB.out.size; simp at *; omega)) _)) b)
    have HR := Lib.hid (RdG.below (by repeat (first | with_reducible exact HR.out | with_reducible apply RdG.drewN | with_reducible apply RdG.drew | with_reducible apply RdG.alloc)) b)
    have HRc := Lib.hid (Rd.below (by repeat (first | with_reducible exact HRc.out | with_reducible apply Rd.drewN | with_reducible apply Rd.drew | with_reducible apply Rd.alloc)) b)
    have Oa := Lib.hid (OwnG.below (by repeat (first | with_reducible exact Oa.out | with_reducible apply OwnG.drewN | with_reducible apply OwnG.drew | with_reducible apply OwnG.alloc)) b)
    have Ra := Lib.hid (RdG.below (by repeat (first | with_reducible exact Ra.out | with_reducible apply RdG.drewN | with_reducible apply RdG.drew | with_reducible apply RdG.alloc)) b)
    have O2 := Lib.hid (OwnG.below (by repeat (first | with_reducible exact O2.out | with_reducible apply OwnG.drewN | with_reducible apply OwnG.drew | with_reducible apply OwnG.alloc)) b)
    have R2 := Lib.hid (RdG.below (by repeat (first | with_reducible exact R2.out | with_reducible apply RdG.drewN | with_reducible apply RdG.drew | with_reducible apply RdG.alloc)) b)
    have Ox2 := Lib.hid (OwnC.below (by repeat (first | with_reducible exact Ox2.out | with_reducible apply OwnC.drewN | with_reducible apply OwnC.drew | with_reducible apply OwnC.alloc)) b)
    have Rx2 := Lib.hid (Rd.below (by repeat (first | with_reducible exact Rx2.out | with_reducible apply Rd.drewN | with_reducible apply Rd.drew | with_reducible apply Rd.alloc)) b)
    have Ob := Lib.hid (OwnG.below (by repeat (first | with_reducible exact Ob.out | with_reducible apply OwnG.drewN | with_reducible apply OwnG.drew | with_reducible apply OwnG.alloc)) b)
    have Rb := Lib.hid (RdG.below (by repeat (first | with_reducible exact Rb.out | with_reducible apply RdG.drewN | with_reducible apply RdG.drew | with_reducible apply RdG.alloc)) b)
    have K0 : Hid (GBox _ (w.heap.size) (⟨27, s, nx, .slice p n c, .slice ps ns cs, .slice pw nw cw⟩)) := Lib.hid (GBox.below (by repeat (first | with_reducible exact K0.out | with_reducible apply GBox.drewN | with_reducible apply GBox.drew | (with_reducible refine GBox.newAt ?_ ?_ <;> first | (simp; done) | rfl) | with_reducible apply GBox.alloc)) b)
    have K4 : Hid (GBox _ (g4) (⟨33, s1, n1, .slice pa a1 ca, .slice psa a2 csa, .slice pwa a3 cwa⟩)) := Lib.hid (GBox.below (by repeat (first | with_reducible exact K4.out | with_reducible apply GBox.drewN | with_reducible apply GBox.drew | (with_reducible refine GBox.newAt ?_ ?_ <;> first | (simp; done) | rfl) | with_reducible apply GBox.alloc)) b)
    have KA4 : Hid (Box _ (g4 + 1) (r1)) := Lib.hid (Box.below (by repeat (first | with_reducible exact KA4.out | with_reducible apply Box.drewN | with_reducible apply Box.drew | (with_reducible refine Box.newAt ?_ ?_ <;> first | (simp; done) | rfl) | with_reducible apply Box.alloc)) b)
    have K6 : Hid (GBox _ (g6) (⟨33, s, nx, .slice p2 n c2, .slice ps2 ns cs2, .slice pw2 nw cw2⟩)) := Lib.hid (GBox.below (by repeat (first | with_reducible exact K6.out | with_reducible apply GBox.drewN | with_reducible apply GBox.drew | (with_reducible refine GBox.newAt ?_ ?_ <;> first | (simp; done) | rfl) | with_reducible apply GBox.alloc)) b)
    have K7 : Hid (GBox _ (g7) (⟨33, s1, n1, .slice pb a1 cb, .slice psb a2 csb, .slice pwb a3 cwb⟩)) := Lib.hid (GBox.below (by repeat (first | with_reducible exact K7.out | with_reducible apply GBox.drewN | with_reducible apply GBox.drew | (with_reducible refine GBox.newAt ?_ ?_ <;> first | (simp; done) | rfl) | with_reducible apply GBox.alloc)) b)
    have KA7 : Hid (Box _ (g7 + 1) (r1)) := Lib.hid (Box.below (by repeat (first | with_reducible exact KA7.out | with_reducible apply Box.drewN | with_reducible apply Box.drew | (with_reducible refine Box.newAt ?_ ?_ <;> first | (simp; done) | rfl) | with_reducible apply Box.alloc)) b)
    try clear k0a k0b k0c k0d k0e k0z
    have k0z := K0.out.lt
    obtain ⟨k0a, k0b, k0c, k0d, k0e⟩ := K0.out.cell
    try clear k4a k4b k4c k4d k4e k4z
    have k4z := K4.out.lt
    obtain ⟨k4a, k4b, k4c, k4d, k4e⟩ := K4.out.cell
    try clear ka4a ka4b ka4c ka4d ka4z
    have ka4z := KA4.out.lt
    obtain ⟨ka4a, ka4b, ka4c, ka4d⟩ := KA4.out.cell
    try clear k6a k6b k6c k6d k6e k6z
    have k6z := K6.out.lt
    obtain ⟨k6a, k6b, k6c, k6d, k6e⟩ := K6.out.cell
    try clear k7a k7b k7c k7d k7e k7z
    have k7z := K7.out.lt
    obtain ⟨k7a, k7b, k7c, k7d, k7e⟩ := K7.out.cell
    try clear ka7a ka7b ka7c ka7d ka7z
    have ka7z := KA7.out.lt
    obtain ⟨ka7a, ka7b, ka7c, ka7d⟩ := KA7.out.cell
    clear b
    have Yw7cK0 := Lib.hid K0.out.lt
    have Yw7cK4 := Lib.hid K4.out.lt
    have Yw7cKA4 := Lib.hid KA4.out.lt
    have Yw7cK6 := Lib.hid K6.out.lt
    have Yw7cK7 := Lib.hid K7.out.lt
    have Yw7cKA7 := Lib.hid KA7.out.lt
    go_wp2_with fail
    refine ((to_claims cl q m k _ HCn.out (by omega) HRc.out)).mono ?_
    rintro e w7c ⟨qx3, kx3, rfl, ox3, rx3, hcx3, b⟩
    have HCx3 := Lib.hid hcx3
    clear hcx3
    have Sw7c : Hid (w7.heap.size ≤ w7c.heap.size) := Lib.hid (by first | exact b.size | (have h := b.size; simp at h; omega))
    have HB := Lib.hid (chain0 (w := w) (by repeat (first | with_reducible exact Below.refl _ _ | with_reducible exact HB.out | with_reducible apply Below.drew | with_reducible apply bdN | with_reducible refine Below.alloc ?_ (by first | exact Nat.le_refl _ | with_reducible exact HB.out.size | omega | (simp; done) | (simp; omega) | (have := HB.out.size; simp at *; omega)) _)) b)
    have Zw7c := Lib.hid HB.out.size
    have HR := Lib.hid (RdG.below (by repeat (first | with_reducible exact HR.out | with_reducible apply RdG.drewN | with_reducible apply RdG.drew | with_reducible apply RdG.alloc)) b)
    have HRc := Lib.hid (Rd.below (by repeat (first | with_reducible exact HRc.out | with_reducible apply Rd.drewN | with_reducible apply Rd.drew | with_reducible apply Rd.alloc)) b)
    have Oa := Lib.hid (OwnG.below (by repeat (first | with_reducible exact Oa.out | with_reducible apply OwnG.drewN | with_reducible apply OwnG.drew | with_reducible apply OwnG.alloc)) b)
    have Ra := Lib.hid (RdG.below (by repeat (first | with_reducible exact Ra.out | with_reducible apply RdG.drewN | with_reducible apply RdG.drew | with_reducible apply RdG.alloc)) b)
    have O2 := Lib.hid (OwnG.below (by repeat (first | with_reducible exact O2.out | with_reducible apply OwnG.drewN | with_reducible apply OwnG.drew | with_reducible apply OwnG.alloc)) b)
    have R2 := Lib.hid (RdG.below (by repeat (first | with_reducible exact R2.out | with_reducible apply RdG.drewN | with_reducible apply RdG.drew | with_reducible apply RdG.alloc)) b)
    have Ox2 := Lib.hid (OwnC.below (by repeat (first | with_reducible exact Ox2.out | with_reducible apply OwnC.drewN | with_reducible apply OwnC.drew | with_reducible apply OwnC.alloc)) b)
    have Rx2 := Lib.hid (Rd.below (by repeat (first | with_reducible exact Rx2.out | with_reducible apply Rd.drewN | with_reducible apply Rd.drew | with_reducible apply Rd.alloc)) b)
    have Ob := Lib.hid (OwnG.below (by repeat (first | with_reducible exact Ob.out | with_reducible apply OwnG.drewN | with_reducible apply OwnG.drew | with_reducible apply OwnG.alloc)) b)
    have Rb := Lib.hid (RdG.below (by repeat (first | with_reducible exact Rb.out | with_reducible apply RdG.drewN | with_reducible apply RdG.drew | with_reducible apply RdG.alloc)) b)
    have K0 : Hid (GBox _ (w.heap.size) (⟨27, s, nx, .slice p n c, .slice ps ns cs, .slice pw nw cw⟩)) := Lib.hid (GBox.below (by repeat (first | with_reducible exact K0.out | with_reducible apply GBox.drewN | with_reducible apply GBox.drew | (with_reducible refine GBox.newAt ?_ ?_ <;> first | (simp; done) | rfl) | with_reducible apply GBox.alloc)) b)
    have K4 : Hid (GBox _ (g4) (⟨33, s1, n1, .slice pa a1 ca, .slice psa a2 csa, .slice pwa a3 cwa⟩)) := Lib.hid (GBox.below (by repeat (first | with_reducible exact K4.out | with_reducible apply GBox.drewN | with_reducible apply GBox.drew | (with_reducible refine GBox.newAt ?_ ?_ <;> first | (simp; done) | rfl) | with_reducible apply GBox.alloc)) b)
    have KA4 : Hid (Box _ (g4 + 1) (r1)) := Lib.hid (Box.below (by repeat (first | with_reducible exact KA4.out | with_reducible apply Box.drewN | with_reducible apply Box.drew | (with_reducible refine Box.newAt ?_ ?_ <;> first | (simp; done) | rfl) | with_reducible apply Box.alloc)) b)
    have K6 : Hid (GBox _ (g6) (⟨33, s, nx, .slice p2 n c2, .slice ps2 ns cs2, .slice pw2 nw cw2⟩)) := Lib.hid (GBox.below (by repeat (first | with_reducible exact K6.out | with_reducible apply GBox.drewN | with_reducible apply GBox.drew | (with_reducible refine GBox.newAt ?_ ?_ <;> first | (simp; done) | rfl) | with_reducible apply GBox.alloc)) b)
    have K7 : Hid (GBox _ (g7) (⟨33, s1, n1, .slice pb a1 cb, .slice psb a2 csb, .slice pwb a3 cwb⟩)) := Lib.hid (GBox.below (by repeat (first | with_reducible exact K7.out | with_reducible apply GBox.drewN | with_reducible apply GBox.drew | (with_reducible refine GBox.newAt ?_ ?_ <;> first | (simp; done) | rfl) | with_reducible apply GBox.alloc)) b)
    have KA7 : Hid (Box _ (g7 + 1) (r1)) := Lib.hid (Box.below (by repeat (first | with_reducible exact KA7.out | with_reducible apply Box.drewN | with_reducible apply Box.drew | (with_reducible refine Box.newAt ?_ ?_ <;> first | (simp; done) | rfl) | with_reducible apply Box.alloc)) b)
    try clear k0a k0b k0c k0d k0e k0z
    have k0z := K0.out.lt
    obtain ⟨k0a, k0b, k0c, k0d, k0e⟩ := K0.out.cell
    try clear k4a k4b k4c k4d k4e k4z
    have k4z := K4.out.lt
    obtain ⟨k4a, k4b, k4c, k4d, k4e⟩ := K4.out.cell
    try clear ka4a ka4b ka4c ka4d ka4z
    have ka4z := KA4.out.lt
    obtain ⟨ka4a, ka4b, ka4c, ka4d⟩ := KA4.out.cell
    try clear k6a k6b k6c k6d k6e k6z
    have k6z := K6.out.lt
    obtain ⟨k6a, k6b, k6c, k6d, k6e⟩ := K6.out.cell
    try clear k7a k7b k7c k7d k7e k7z
    have k7z := K7.out.lt
    obtain ⟨k7a, k7b, k7c, k7d, k7e⟩ := K7.out.cell
    try clear ka7a ka7b ka7c ka7d ka7z
    have ka7z := KA7.out.lt
    obtain ⟨ka7a, ka7b, ka7c, ka7d⟩ := KA7.out.cell
    have Ox3 : Hid (OwnC w7c w7.heap.size w7c.heap.size _ _) := Lib.hid (OwnC.base ox3 (by first | exact Nat.le_refl _ | (simp; done) | (simp; omega)))
    have Rx3 := Lib.hid rx3
    clear b ox3 rx3
    go_wp2_with fail
    refine ((eq_claims cl qx2 qx3 m kx2 kx3 _ HCn.out (by omega) Rx2.out Rx3.out)).mono ?_
    rintro e w7d ⟨rfl, b⟩
    have Sw7d : Hid (w7c.heap.size ≤ w7d.heap.size) := Lib.hid (by first | exact b.size | (have h := b.size; simp at h; omega))
    have HB := Lib.hid (chain0 (w := w) (by repeat (first | with_reducible exact Below.refl _ _ | with_reducible exact HB.out | with_reducible apply Below.drew | with_reducible apply bdN | with_reducible refine Below.alloc ?_ (by first | exact Nat.le_refl _ | with_reducible exact HB.out.size | omega | (simp; done) | (simp; omega) | (have := HB.out.size; simp at *; omega)) _)) b)
    have HR := Lib.hid (RdG.below (by repeat (first | with_reducible exact HR.out | with_reducible apply RdG.drewN | with_reducible apply RdG.drew | with_reducible apply RdG.alloc)) b)
    have HRc := Lib.hid (Rd.below (by repeat (first | with_reducible exact HRc.out | with_reducible apply Rd.drewN | with_reducible apply Rd.drew | with_reducible apply Rd.alloc)) b)
    have Oa := Lib.hid (OwnG.below (by repeat (first | with_reducible exact Oa.out | with_reducible apply OwnG.drewN | with_reducible apply OwnG.drew | with_reducible apply OwnG.alloc)) b)
    have Ra := Lib.hid (RdG.below (by repeat (first | with_reducible exact Ra.out | with_reducible apply RdG.drewN | with_reducible apply RdG.drew | with_reducible apply RdG.alloc)) b)
    have O2 := Lib.hid (OwnG.below (by repeat (first | with_reducible exact O2.out | with_reducible apply OwnG.drewN | with_reducible apply OwnG.drew | with_reducible apply OwnG.alloc)) b)
    have R2 := Lib.hid (RdG.below (by repeat (first | with_reducible exact R2.out | with_reducible apply RdG.drewN | with_reducible apply RdG.drew | with_reducible apply RdG.alloc)) b)
    have Ox2 := Lib.hid (OwnC.below (by repeat (first | with_reducible exact Ox2.out | with_reducible apply OwnC.drewN | with_reducible apply OwnC.drew | with_reducible apply OwnC.alloc)) b)
    have Rx2 := Lib.hid (Rd.below (by repeat (first | with_reducible exact Rx2.out | with_reducible apply Rd.drewN | with_reducible apply Rd.drew | with_reducible apply Rd.alloc)) b)
    have Ob := Lib.hid (OwnG.below (by repeat (first | with_reducible exact Ob.out | with_reducible apply OwnG.drewN | with_reducible apply OwnG.drew | with_reducible apply OwnG.alloc)) b)
    have Rb := Lib.hid (RdG.below (by repeat (first | with_reducible exact Rb.out | with_reducible apply RdG.drewN | with_reducible apply RdG.drew | with_reducible apply RdG.alloc)) b)
    have Ox3 := Lib.hid (OwnC.below (by repeat (first | with_reducible exact Ox3.out | with_reducible apply OwnC.drewN | with_reducible apply OwnC.drew | with_reducible apply OwnC.alloc)) b)
    have Rx3 := Lib.hid (Rd.below (by repeat (first | with_reducible exact Rx3.out | with_reducible apply Rd.drewN | with_reducible apply Rd.drew | with_reducible apply Rd.alloc)) b)
    have K0 : Hid (GBox _ (w.heap.size) (⟨27, s, nx, .slice p n c, .slice ps ns cs, .slice pw nw cw⟩)) := Lib.hid (GBox.below (by repeat (first | with_reducible exact K0.out | with_reducible apply GBox.drewN | with_reducible apply GBox.drew | (with_reducible refine GBox.newAt ?_ ?_ <;> first | (simp; done) | rfl) | with_reducible apply GBox.alloc)) b)
    have K4 : Hid (GBox _ (g4) (⟨33, s1, n1, .slice pa a1 ca, .slice psa a2 csa, .slice pwa a3 cwa⟩)) := Lib.hid (GBox.below (by repeat (first | with_reducible exact K4.out | with_reducible apply GBox.drewN | with_reducible apply GBox.drew | (with_reducible refine GBox.newAt ?_ ?_ <;> first | (simp; done) | rfl) | with_reducible apply GBox.alloc)) b)
    have KA4 : Hid (Box _ (g4 + 1) (r1)) := Lib.hid (Box.below (by repeat (first | with_reducible exact KA4.out | with_reducible apply Box.drewN | with_reducible apply Box.drew | (with_reducible refine Box.newAt ?_ ?_ <;> first | (simp; done) | rfl) | with_reducible apply Box.alloc)) b)
    have K6 : Hid (GBox _ (g6) (⟨33, s, nx, .slice p2 n c2, .slice ps2 ns cs2, .slice pw2 nw cw2⟩)) := Lib.hid (GBox.below (by repeat (first | with_reducible exact K6.out | with_reducible apply GBox.drewN | with_reducible apply GBox.drew | (with_reducible refine GBox.newAt ?_ ?_ <;> first | (simp; done) | rfl) | with_reducible apply GBox.alloc)) b)
    have K7 : Hid (GBox _ (g7) (⟨33, s1, n1, .slice pb a1 cb, .slice psb a2 csb, .slice pwb a3 cwb⟩)) := Lib.hid (GBox.below (by repeat (first | with_reducible exact K7.out | with_reducible apply GBox.drewN | with_reducible apply GBox.drew | (with_reducible refine GBox.newAt ?_ ?_ <;> first | (simp; done) | rfl) | with_reducible apply GBox.alloc)) b)
    have KA7 : Hid (Box _ (g7 + 1) (r1)) := Lib.hid (Box.below (by repeat (first | with_reducible exact KA7.out | with_reducible apply Box.drewN | with_reducible apply Box.drew | (with_reducible refine Box.newAt ?_ ?_ <;> first | (simp; done) | rfl) | with_reducible apply Box.alloc)) b)
    try clear k0a k0b k0c k0d k0e k0z
    have k0z := K0.out.lt
    obtain ⟨k0a, k0b, k0c, k0d, k0e⟩ := K0.out.cell
    try clear k4a k4b k4c k4d k4e k4z
    have k4z := K4.out.lt
    obtain ⟨k4a, k4b, k4c, k4d, k4e⟩ := K4.out.cell
    try clear ka4a ka4b ka4c ka4d ka4z
    have ka4z := KA4.out.lt
    obtain ⟨ka4a, ka4b, ka4c, ka4d⟩ := KA4.out.cell
    try clear k6a k6b k6c k6d k6e k6z
    have k6z := K6.out.lt
    obtain ⟨k6a, k6b, k6c, k6d, k6e⟩ := K6.out.cell
    try clear k7a k7b k7c k7d k7e k7z
    have k7z := K7.out.lt
    obtain ⟨k7a, k7b, k7c, k7d, k7e⟩ := K7.out.cell
    try clear ka7a ka7b ka7c ka7d ka7z
    have ka7z := KA7.out.lt
    obtain ⟨ka7a, ka7b, ka7c, ka7d⟩ := KA7.out.cell
    clear b
    go_wp2_with fail
    refine ((mark_game s nx l sc wt (.slice p2 n c2) (.slice ps2 ns cs2) (.slice pw2 nw cw2) _ _ 1 n ns nw _ HN.out HS.out HW.out (by omega) (by have h0 := Sw0.out; have h1 := Sw0.out; have h2 := Sw0.out; have h3 := Yw1K0.out; have h4 := Sw1.out; have h5 := Zw1.out; have h6 := Yw1cK0.out; have h7 := Sw1c.out; have h8 := Zw1c.out; have h9 := Yw2K0.out; have h10 := Sw2.out; have h11 := Zw2.out; have h12 := Sw2b.out; have h13 := HGg4.out; have h14 := Gg4.out; have h15 := Yw3K0.out; have h16 := Yw3K4.out; have h17 := Yw3KA4.out; have h18 := Sw3.out; have h19 := Zw3.out; have h20 := HGg6.out; have h21 := Sw3b.out; have h22 := Gg6.out; have h23 := Yw3cK0.out; have h24 := Yw3cK4.out; have h25 := Yw3cKA4.out; have h26 := Yw3cK6.out; have h27 := Sw3c.out; have h28 := Zw3c.out; have h29 := Yw4K0.out; have h30 := Yw4K4.out; have h31 := Yw4KA4.out; have h32 := Yw4K6.out; have h33 := Sw4.out; have h34 := Zw4.out; have h35 := Sw4b.out; have h36 := HGg7.out; have h37 := Gg7.out; have h38 := Sw5.out; have h39 := Sw5a.out; have h40 := Sw7.out; have h41 := Yw7cK0.out; have h42 := Yw7cK4.out; have h43 := Yw7cKA4.out; have h44 := Yw7cK6.out; have h45 := Yw7cK7.out; have h46 := Yw7cKA7.out; have h47 := Sw7c.out; have h48 := Zw7c.out; have h49 := Sw7d.out; first | omega | (show _ ≤ w7d.heap.size; omega) | (simp at *; omega)) (by have h0 := Sw0.out; have h1 := Sw0.out; have h2 := Sw0.out; have h3 := Yw1K0.out; have h4 := Sw1.out; have h5 := Zw1.out; have h6 := Yw1cK0.out; have h7 := Sw1c.out; have h8 := Zw1c.out; have h9 := Yw2K0.out; have h10 := Sw2.out; have h11 := Zw2.out; have h12 := Sw2b.out; have h13 := HGg4.out; have h14 := Gg4.out; have h15 := Yw3K0.out; have h16 := Yw3K4.out; have h17 := Yw3KA4.out; have h18 := Sw3.out; have h19 := Zw3.out; have h20 := HGg6.out; have h21 := Sw3b.out; have h22 := Gg6.out; have h23 := Yw3cK0.out; have h24 := Yw3cK4.out; have h25 := Yw3cKA4.out; have h26 := Yw3cK6.out; have h27 := Sw3c.out; have h28 := Zw3c.out; have h29 := Yw4K0.out; have h30 := Yw4K4.out; have h31 := Yw4KA4.out; have h32 := Yw4K6.out; have h33 := Sw4.out; have h34 := Zw4.out; have h35 := Sw4b.out; have h36 := HGg7.out; have h37 := Gg7.out; have h38 := Sw5.out; have h39 := Sw5a.out; have h40 := Sw7.out; have h41 := Yw7cK0.out; have h42 := Yw7cK4.out; have h43 := Yw7cKA4.out; have h44 := Yw7cK6.out; have h45 := Yw7cK7.out; have h46 := Yw7cKA7.out; have h47 := Sw7c.out; have h48 := Zw7c.out; have h49 := Sw7d.out; first | omega | (show _ ≤ w7d.heap.size; omega) | (simp at *; omega)) O2.out)).mono ?_
    rintro e w8 ⟨rfl, oM, gM⟩
    have Sw8 : Hid (w7d.heap.size ≤ w8.heap.size) := Lib.hid gM.size
    have HB := Lib.hid (game.Below.out HB.out gM HB.out.size (by have h0 := Sw0.out; have h1 := Sw0.out; have h2 := Sw0.out; have h3 := Yw1K0.out; have h4 := Sw1.out; have h5 := Zw1.out; have h6 := Yw1cK0.out; have h7 := Sw1c.out; have h8 := Zw1c.out; have h9 := Yw2K0.out; have h10 := Sw2.out; have h11 := Zw2.out; have h12 := Sw2b.out; have h13 := HGg4.out; have h14 := Gg4.out; have h15 := Yw3K0.out; have h16 := Yw3K4.out; have h17 := Yw3KA4.out; have h18 := Sw3.out; have h19 := Zw3.out; have h20 := HGg6.out; have h21 := Sw3b.out; have h22 := Gg6.out; have h23 := Yw3cK0.out; have h24 := Yw3cK4.out; have h25 := Yw3cKA4.out; have h26 := Yw3cK6.out; have h27 := Sw3c.out; have h28 := Zw3c.out; have h29 := Yw4K0.out; have h30 := Yw4K4.out; have h31 := Yw4KA4.out; have h32 := Yw4K6.out; have h33 := Sw4.out; have h34 := Zw4.out; have h35 := Sw4b.out; have h36 := HGg7.out; have h37 := Gg7.out; have h38 := Sw5.out; have h39 := Sw5a.out; have h40 := Sw7.out; have h41 := Yw7cK0.out; have h42 := Yw7cK4.out; have h43 := Yw7cKA4.out; have h44 := Yw7cK6.out; have h45 := Yw7cK7.out; have h46 := Yw7cKA7.out; have h47 := Sw7c.out; have h48 := Zw7c.out; have h49 := Sw7d.out; first | omega | (simp at *; omega)))
    have HR := Lib.hid (RdG.below HR0.out HB.out)
    have HRc := Lib.hid (Rd.below HRc0.out HB.out)
    have Oa := Lib.hid (OwnG.out Oa.out gM (by have h0 := Sw0.out; have h1 := Sw0.out; have h2 := Sw0.out; have h3 := Yw1K0.out; have h4 := Sw1.out; have h5 := Zw1.out; have h6 := Yw1cK0.out; have h7 := Sw1c.out; have h8 := Zw1c.out; have h9 := Yw2K0.out; have h10 := Sw2.out; have h11 := Zw2.out; have h12 := Sw2b.out; have h13 := HGg4.out; have h14 := Gg4.out; have h15 := Yw3K0.out; have h16 := Yw3K4.out; have h17 := Yw3KA4.out; have h18 := Sw3.out; have h19 := Zw3.out; have h20 := HGg6.out; have h21 := Sw3b.out; have h22 := Gg6.out; have h23 := Yw3cK0.out; have h24 := Yw3cK4.out; have h25 := Yw3cKA4.out; have h26 := Yw3cK6.out; have h27 := Sw3c.out; have h28 := Zw3c.out; have h29 := Yw4K0.out; have h30 := Yw4K4.out; have h31 := Yw4KA4.out; have h32 := Yw4K6.out; have h33 := Sw4.out; have h34 := Zw4.out; have h35 := Sw4b.out; have h36 := HGg7.out; have h37 := Gg7.out; have h38 := Sw5.out; have h39 := Sw5a.out; have h40 := Sw7.out; have h41 := Yw7cK0.out; have h42 := Yw7cK4.out; have h43 := Yw7cKA4.out; have h44 := Yw7cK6.out; have h45 := Yw7cK7.out; have h46 := Yw7cKA7.out; have h47 := Sw7c.out; have h48 := Zw7c.out; have h49 := Sw7d.out; first | omega | (simp at *; omega)))
    have Ra := Lib.hid (OwnG.rd Oa.out)
    have Ox2 := Lib.hid (OwnC.out Ox2.out gM (by have h0 := Sw0.out; have h1 := Sw0.out; have h2 := Sw0.out; have h3 := Yw1K0.out; have h4 := Sw1.out; have h5 := Zw1.out; have h6 := Yw1cK0.out; have h7 := Sw1c.out; have h8 := Zw1c.out; have h9 := Yw2K0.out; have h10 := Sw2.out; have h11 := Zw2.out; have h12 := Sw2b.out; have h13 := HGg4.out; have h14 := Gg4.out; have h15 := Yw3K0.out; have h16 := Yw3K4.out; have h17 := Yw3KA4.out; have h18 := Sw3.out; have h19 := Zw3.out; have h20 := HGg6.out; have h21 := Sw3b.out; have h22 := Gg6.out; have h23 := Yw3cK0.out; have h24 := Yw3cK4.out; have h25 := Yw3cKA4.out; have h26 := Yw3cK6.out; have h27 := Sw3c.out; have h28 := Zw3c.out; have h29 := Yw4K0.out; have h30 := Yw4K4.out; have h31 := Yw4KA4.out; have h32 := Yw4K6.out; have h33 := Sw4.out; have h34 := Zw4.out; have h35 := Sw4b.out; have h36 := HGg7.out; have h37 := Gg7.out; have h38 := Sw5.out; have h39 := Sw5a.out; have h40 := Sw7.out; have h41 := Yw7cK0.out; have h42 := Yw7cK4.out; have h43 := Yw7cKA4.out; have h44 := Yw7cK6.out; have h45 := Yw7cK7.out; have h46 := Yw7cKA7.out; have h47 := Sw7c.out; have h48 := Zw7c.out; have h49 := Sw7d.out; first | omega | (simp at *; omega)))
    have Rx2 := Lib.hid (OwnC.rd Ox2.out)
    have Ob := Lib.hid (OwnG.out Ob.out gM (by have h0 := Sw0.out; have h1 := Sw0.out; have h2 := Sw0.out; have h3 := Yw1K0.out; have h4 := Sw1.out; have h5 := Zw1.out; have h6 := Yw1cK0.out; have h7 := Sw1c.out; have h8 := Zw1c.out; have h9 := Yw2K0.out; have h10 := Sw2.out; have h11 := Zw2.out; have h12 := Sw2b.out; have h13 := HGg4.out; have h14 := Gg4.out; have h15 := Yw3K0.out; have h16 := Yw3K4.out; have h17 := Yw3KA4.out; have h18 := Sw3.out; have h19 := Zw3.out; have h20 := HGg6.out; have h21 := Sw3b.out; have h22 := Gg6.out; have h23 := Yw3cK0.out; have h24 := Yw3cK4.out; have h25 := Yw3cKA4.out; have h26 := Yw3cK6.out; have h27 := Sw3c.out; have h28 := Zw3c.out; have h29 := Yw4K0.out; have h30 := Yw4K4.out; have h31 := Yw4KA4.out; have h32 := Yw4K6.out; have h33 := Sw4.out; have h34 := Zw4.out; have h35 := Sw4b.out; have h36 := HGg7.out; have h37 := Gg7.out; have h38 := Sw5.out; have h39 := Sw5a.out; have h40 := Sw7.out; have h41 := Yw7cK0.out; have h42 := Yw7cK4.out; have h43 := Yw7cKA4.out; have h44 := Yw7cK6.out; have h45 := Yw7cK7.out; have h46 := Yw7cKA7.out; have h47 := Sw7c.out; have h48 := Zw7c.out; have h49 := Sw7d.out; first | omega | (simp at *; omega)))
    have Rb := Lib.hid (OwnG.rd Ob.out)
    have O2 := Lib.hid oM
    have K0 : Hid (GBox _ (w.heap.size) (⟨27, s, nx, .slice p n c, .slice ps ns cs, .slice pw nw cw⟩)) := Lib.hid (GBox.out K0.out gM (by have h0 := Sw0.out; have h1 := Sw0.out; have h2 := Sw0.out; have h3 := Yw1K0.out; have h4 := Sw1.out; have h5 := Zw1.out; have h6 := Yw1cK0.out; have h7 := Sw1c.out; have h8 := Zw1c.out; have h9 := Yw2K0.out; have h10 := Sw2.out; have h11 := Zw2.out; have h12 := Sw2b.out; have h13 := HGg4.out; have h14 := Gg4.out; have h15 := Yw3K0.out; have h16 := Yw3K4.out; have h17 := Yw3KA4.out; have h18 := Sw3.out; have h19 := Zw3.out; have h20 := HGg6.out; have h21 := Sw3b.out; have h22 := Gg6.out; have h23 := Yw3cK0.out; have h24 := Yw3cK4.out; have h25 := Yw3cKA4.out; have h26 := Yw3cK6.out; have h27 := Sw3c.out; have h28 := Zw3c.out; have h29 := Yw4K0.out; have h30 := Yw4K4.out; have h31 := Yw4KA4.out; have h32 := Yw4K6.out; have h33 := Sw4.out; have h34 := Zw4.out; have h35 := Sw4b.out; have h36 := HGg7.out; have h37 := Gg7.out; have h38 := Sw5.out; have h39 := Sw5a.out; have h40 := Sw7.out; have h41 := Yw7cK0.out; have h42 := Yw7cK4.out; have h43 := Yw7cKA4.out; have h44 := Yw7cK6.out; have h45 := Yw7cK7.out; have h46 := Yw7cKA7.out; have h47 := Sw7c.out; have h48 := Zw7c.out; have h49 := Sw7d.out; first | omega | (simp at *; omega)))
    try clear k0a k0b k0c k0d k0e k0z
    have k0z := K0.out.lt
    obtain ⟨k0a, k0b, k0c, k0d, k0e⟩ := K0.out.cell
    have K4 : Hid (GBox _ (g4) (⟨33, s1, n1, .slice pa a1 ca, .slice psa a2 csa, .slice pwa a3 cwa⟩)) := Lib.hid (GBox.out K4.out gM (by have h0 := Sw0.out; have h1 := Sw0.out; have h2 := Sw0.out; have h3 := Yw1K0.out; have h4 := Sw1.out; have h5 := Zw1.out; have h6 := Yw1cK0.out; have h7 := Sw1c.out; have h8 := Zw1c.out; have h9 := Yw2K0.out; have h10 := Sw2.out; have h11 := Zw2.out; have h12 := Sw2b.out; have h13 := HGg4.out; have h14 := Gg4.out; have h15 := Yw3K0.out; have h16 := Yw3K4.out; have h17 := Yw3KA4.out; have h18 := Sw3.out; have h19 := Zw3.out; have h20 := HGg6.out; have h21 := Sw3b.out; have h22 := Gg6.out; have h23 := Yw3cK0.out; have h24 := Yw3cK4.out; have h25 := Yw3cKA4.out; have h26 := Yw3cK6.out; have h27 := Sw3c.out; have h28 := Zw3c.out; have h29 := Yw4K0.out; have h30 := Yw4K4.out; have h31 := Yw4KA4.out; have h32 := Yw4K6.out; have h33 := Sw4.out; have h34 := Zw4.out; have h35 := Sw4b.out; have h36 := HGg7.out; have h37 := Gg7.out; have h38 := Sw5.out; have h39 := Sw5a.out; have h40 := Sw7.out; have h41 := Yw7cK0.out; have h42 := Yw7cK4.out; have h43 := Yw7cKA4.out; have h44 := Yw7cK6.out; have h45 := Yw7cK7.out; have h46 := Yw7cKA7.out; have h47 := Sw7c.out; have h48 := Zw7c.out; have h49 := Sw7d.out; first | omega | (simp at *; omega)))
    try clear k4a k4b k4c k4d k4e k4z
    have k4z := K4.out.lt
    obtain ⟨k4a, k4b, k4c, k4d, k4e⟩ := K4.out.cell
    have KA4 : Hid (Box _ (g4 + 1) (r1)) := Lib.hid (Box.out KA4.out gM (by have h0 := Sw0.out; have h1 := Sw0.out; have h2 := Sw0.out; have h3 := Yw1K0.out; have h4 := Sw1.out; have h5 := Zw1.out; have h6 := Yw1cK0.out; have h7 := Sw1c.out; have h8 := Zw1c.out; have h9 := Yw2K0.out; have h10 := Sw2.out; have h11 := Zw2.out; have h12 := Sw2b.out; have h13 := HGg4.out; have h14 := Gg4.out; have h15 := Yw3K0.out; have h16 := Yw3K4.out; have h17 := Yw3KA4.out; have h18 := Sw3.out; have h19 := Zw3.out; have h20 := HGg6.out; have h21 := Sw3b.out; have h22 := Gg6.out; have h23 := Yw3cK0.out; have h24 := Yw3cK4.out; have h25 := Yw3cKA4.out; have h26 := Yw3cK6.out; have h27 := Sw3c.out; have h28 := Zw3c.out; have h29 := Yw4K0.out; have h30 := Yw4K4.out; have h31 := Yw4KA4.out; have h32 := Yw4K6.out; have h33 := Sw4.out; have h34 := Zw4.out; have h35 := Sw4b.out; have h36 := HGg7.out; have h37 := Gg7.out; have h38 := Sw5.out; have h39 := Sw5a.out; have h40 := Sw7.out; have h41 := Yw7cK0.out; have h42 := Yw7cK4.out; have h43 := Yw7cKA4.out; have h44 := Yw7cK6.out; have h45 := Yw7cK7.out; have h46 := Yw7cKA7.out; have h47 := Sw7c.out; have h48 := Zw7c.out; have h49 := Sw7d.out; first | omega | (simp at *; omega)))
    try clear ka4a ka4b ka4c ka4d ka4z
    have ka4z := KA4.out.lt
    obtain ⟨ka4a, ka4b, ka4c, ka4d⟩ := KA4.out.cell
    have K6 : Hid (GBox _ (g6) (⟨33, s, nx, .slice p2 n c2, .slice ps2 ns cs2, .slice pw2 nw cw2⟩)) := Lib.hid (GBox.out K6.out gM (by have h0 := Sw0.out; have h1 := Sw0.out; have h2 := Sw0.out; have h3 := Yw1K0.out; have h4 := Sw1.out; have h5 := Zw1.out; have h6 := Yw1cK0.out; have h7 := Sw1c.out; have h8 := Zw1c.out; have h9 := Yw2K0.out; have h10 := Sw2.out; have h11 := Zw2.out; have h12 := Sw2b.out; have h13 := HGg4.out; have h14 := Gg4.out; have h15 := Yw3K0.out; have h16 := Yw3K4.out; have h17 := Yw3KA4.out; have h18 := Sw3.out; have h19 := Zw3.out; have h20 := HGg6.out; have h21 := Sw3b.out; have h22 := Gg6.out; have h23 := Yw3cK0.out; have h24 := Yw3cK4.out; have h25 := Yw3cKA4.out; have h26 := Yw3cK6.out; have h27 := Sw3c.out; have h28 := Zw3c.out; have h29 := Yw4K0.out; have h30 := Yw4K4.out; have h31 := Yw4KA4.out; have h32 := Yw4K6.out; have h33 := Sw4.out; have h34 := Zw4.out; have h35 := Sw4b.out; have h36 := HGg7.out; have h37 := Gg7.out; have h38 := Sw5.out; have h39 := Sw5a.out; have h40 := Sw7.out; have h41 := Yw7cK0.out; have h42 := Yw7cK4.out; have h43 := Yw7cKA4.out; have h44 := Yw7cK6.out; have h45 := Yw7cK7.out; have h46 := Yw7cKA7.out; have h47 := Sw7c.out; have h48 := Zw7c.out; have h49 := Sw7d.out; first | omega | (simp at *; omega)))
    try clear k6a k6b k6c k6d k6e k6z
    have k6z := K6.out.lt
    obtain ⟨k6a, k6b, k6c, k6d, k6e⟩ := K6.out.cell
    have K7 : Hid (GBox _ (g7) (⟨33, s1, n1, .slice pb a1 cb, .slice psb a2 csb, .slice pwb a3 cwb⟩)) := Lib.hid (GBox.out K7.out gM (by have h0 := Sw0.out; have h1 := Sw0.out; have h2 := Sw0.out; have h3 := Yw1K0.out; have h4 := Sw1.out; have h5 := Zw1.out; have h6 := Yw1cK0.out; have h7 := Sw1c.out; have h8 := Zw1c.out; have h9 := Yw2K0.out; have h10 := Sw2.out; have h11 := Zw2.out; have h12 := Sw2b.out; have h13 := HGg4.out; have h14 := Gg4.out; have h15 := Yw3K0.out; have h16 := Yw3K4.out; have h17 := Yw3KA4.out; have h18 := Sw3.out; have h19 := Zw3.out; have h20 := HGg6.out; have h21 := Sw3b.out; have h22 := Gg6.out; have h23 := Yw3cK0.out; have h24 := Yw3cK4.out; have h25 := Yw3cKA4.out; have h26 := Yw3cK6.out; have h27 := Sw3c.out; have h28 := Zw3c.out; have h29 := Yw4K0.out; have h30 := Yw4K4.out; have h31 := Yw4KA4.out; have h32 := Yw4K6.out; have h33 := Sw4.out; have h34 := Zw4.out; have h35 := Sw4b.out; have h36 := HGg7.out; have h37 := Gg7.out; have h38 := Sw5.out; have h39 := Sw5a.out; have h40 := Sw7.out; have h41 := Yw7cK0.out; have h42 := Yw7cK4.out; have h43 := Yw7cKA4.out; have h44 := Yw7cK6.out; have h45 := Yw7cK7.out; have h46 := Yw7cKA7.out; have h47 := Sw7c.out; have h48 := Zw7c.out; have h49 := Sw7d.out; first | omega | (simp at *; omega)))
    try clear k7a k7b k7c k7d k7e k7z
    have k7z := K7.out.lt
    obtain ⟨k7a, k7b, k7c, k7d, k7e⟩ := K7.out.cell
    have KA7 : Hid (Box _ (g7 + 1) (r1)) := Lib.hid (Box.out KA7.out gM (by have h0 := Sw0.out; have h1 := Sw0.out; have h2 := Sw0.out; have h3 := Yw1K0.out; have h4 := Sw1.out; have h5 := Zw1.out; have h6 := Yw1cK0.out; have h7 := Sw1c.out; have h8 := Zw1c.out; have h9 := Yw2K0.out; have h10 := Sw2.out; have h11 := Zw2.out; have h12 := Sw2b.out; have h13 := HGg4.out; have h14 := Gg4.out; have h15 := Yw3K0.out; have h16 := Yw3K4.out; have h17 := Yw3KA4.out; have h18 := Sw3.out; have h19 := Zw3.out; have h20 := HGg6.out; have h21 := Sw3b.out; have h22 := Gg6.out; have h23 := Yw3cK0.out; have h24 := Yw3cK4.out; have h25 := Yw3cKA4.out; have h26 := Yw3cK6.out; have h27 := Sw3c.out; have h28 := Zw3c.out; have h29 := Yw4K0.out; have h30 := Yw4K4.out; have h31 := Yw4KA4.out; have h32 := Yw4K6.out; have h33 := Sw4.out; have h34 := Zw4.out; have h35 := Sw4b.out; have h36 := HGg7.out; have h37 := Gg7.out; have h38 := Sw5.out; have h39 := Sw5a.out; have h40 := Sw7.out; have h41 := Yw7cK0.out; have h42 := Yw7cK4.out; have h43 := Yw7cKA4.out; have h44 := Yw7cK6.out; have h45 := Yw7cK7.out; have h46 := Yw7cKA7.out; have h47 := Sw7c.out; have h48 := Zw7c.out; have h49 := Sw7d.out; first | omega | (simp at *; omega)))
    try clear ka7a ka7b ka7c ka7d ka7z
    have ka7z := KA7.out.lt
    obtain ⟨ka7a, ka7b, ka7c, ka7d⟩ := KA7.out.cell
    clear oM gM
    go_wp2_with fail
    refine ((mark_claims cl (.slice qx2 m kx2) _ _ (1 + 4 * n + ns + nw) m _ HCn.out (by omega) (by have h0 := Sw0.out; have h1 := Sw0.out; have h2 := Sw0.out; have h3 := Yw1K0.out; have h4 := Sw1.out; have h5 := Zw1.out; have h6 := Yw1cK0.out; have h7 := Sw1c.out; have h8 := Zw1c.out; have h9 := Yw2K0.out; have h10 := Sw2.out; have h11 := Zw2.out; have h12 := Sw2b.out; have h13 := HGg4.out; have h14 := Gg4.out; have h15 := Yw3K0.out; have h16 := Yw3K4.out; have h17 := Yw3KA4.out; have h18 := Sw3.out; have h19 := Zw3.out; have h20 := HGg6.out; have h21 := Sw3b.out; have h22 := Gg6.out; have h23 := Yw3cK0.out; have h24 := Yw3cK4.out; have h25 := Yw3cKA4.out; have h26 := Yw3cK6.out; have h27 := Sw3c.out; have h28 := Zw3c.out; have h29 := Yw4K0.out; have h30 := Yw4K4.out; have h31 := Yw4KA4.out; have h32 := Yw4K6.out; have h33 := Sw4.out; have h34 := Zw4.out; have h35 := Sw4b.out; have h36 := HGg7.out; have h37 := Gg7.out; have h38 := Sw5.out; have h39 := Sw5a.out; have h40 := Sw7.out; have h41 := Yw7cK0.out; have h42 := Yw7cK4.out; have h43 := Yw7cKA4.out; have h44 := Yw7cK6.out; have h45 := Yw7cK7.out; have h46 := Yw7cKA7.out; have h47 := Sw7c.out; have h48 := Zw7c.out; have h49 := Sw7d.out; have h50 := Sw8.out; first | omega | (show _ ≤ w8.heap.size; omega) | (simp at *; omega)) (by have h0 := Sw0.out; have h1 := Sw0.out; have h2 := Sw0.out; have h3 := Yw1K0.out; have h4 := Sw1.out; have h5 := Zw1.out; have h6 := Yw1cK0.out; have h7 := Sw1c.out; have h8 := Zw1c.out; have h9 := Yw2K0.out; have h10 := Sw2.out; have h11 := Zw2.out; have h12 := Sw2b.out; have h13 := HGg4.out; have h14 := Gg4.out; have h15 := Yw3K0.out; have h16 := Yw3K4.out; have h17 := Yw3KA4.out; have h18 := Sw3.out; have h19 := Zw3.out; have h20 := HGg6.out; have h21 := Sw3b.out; have h22 := Gg6.out; have h23 := Yw3cK0.out; have h24 := Yw3cK4.out; have h25 := Yw3cKA4.out; have h26 := Yw3cK6.out; have h27 := Sw3c.out; have h28 := Zw3c.out; have h29 := Yw4K0.out; have h30 := Yw4K4.out; have h31 := Yw4KA4.out; have h32 := Yw4K6.out; have h33 := Sw4.out; have h34 := Zw4.out; have h35 := Sw4b.out; have h36 := HGg7.out; have h37 := Gg7.out; have h38 := Sw5.out; have h39 := Sw5a.out; have h40 := Sw7.out; have h41 := Yw7cK0.out; have h42 := Yw7cK4.out; have h43 := Yw7cKA4.out; have h44 := Yw7cK6.out; have h45 := Yw7cK7.out; have h46 := Yw7cKA7.out; have h47 := Sw7c.out; have h48 := Zw7c.out; have h49 := Sw7d.out; have h50 := Sw8.out; first | omega | (show _ ≤ w8.heap.size; omega) | (simp at *; omega)) Ox2.out)).mono ?_
    rintro e w8c ⟨rfl, oM, gM⟩
    have Sw8c : Hid (w8.heap.size ≤ w8c.heap.size) := Lib.hid gM.size
    have HB := Lib.hid (game.Below.out HB.out gM HB.out.size (by have h0 := Sw0.out; have h1 := Sw0.out; have h2 := Sw0.out; have h3 := Yw1K0.out; have h4 := Sw1.out; have h5 := Zw1.out; have h6 := Yw1cK0.out; have h7 := Sw1c.out; have h8 := Zw1c.out; have h9 := Yw2K0.out; have h10 := Sw2.out; have h11 := Zw2.out; have h12 := Sw2b.out; have h13 := HGg4.out; have h14 := Gg4.out; have h15 := Yw3K0.out; have h16 := Yw3K4.out; have h17 := Yw3KA4.out; have h18 := Sw3.out; have h19 := Zw3.out; have h20 := HGg6.out; have h21 := Sw3b.out; have h22 := Gg6.out; have h23 := Yw3cK0.out; have h24 := Yw3cK4.out; have h25 := Yw3cKA4.out; have h26 := Yw3cK6.out; have h27 := Sw3c.out; have h28 := Zw3c.out; have h29 := Yw4K0.out; have h30 := Yw4K4.out; have h31 := Yw4KA4.out; have h32 := Yw4K6.out; have h33 := Sw4.out; have h34 := Zw4.out; have h35 := Sw4b.out; have h36 := HGg7.out; have h37 := Gg7.out; have h38 := Sw5.out; have h39 := Sw5a.out; have h40 := Sw7.out; have h41 := Yw7cK0.out; have h42 := Yw7cK4.out; have h43 := Yw7cKA4.out; have h44 := Yw7cK6.out; have h45 := Yw7cK7.out; have h46 := Yw7cKA7.out; have h47 := Sw7c.out; have h48 := Zw7c.out; have h49 := Sw7d.out; have h50 := Sw8.out; first | omega | (simp at *; omega)))
    have HR := Lib.hid (RdG.below HR0.out HB.out)
    have HRc := Lib.hid (Rd.below HRc0.out HB.out)
    have Oa := Lib.hid (OwnG.out Oa.out gM (by have h0 := Sw0.out; have h1 := Sw0.out; have h2 := Sw0.out; have h3 := Yw1K0.out; have h4 := Sw1.out; have h5 := Zw1.out; have h6 := Yw1cK0.out; have h7 := Sw1c.out; have h8 := Zw1c.out; have h9 := Yw2K0.out; have h10 := Sw2.out; have h11 := Zw2.out; have h12 := Sw2b.out; have h13 := HGg4.out; have h14 := Gg4.out; have h15 := Yw3K0.out; have h16 := Yw3K4.out; have h17 := Yw3KA4.out; have h18 := Sw3.out; have h19 := Zw3.out; have h20 := HGg6.out; have h21 := Sw3b.out; have h22 := Gg6.out; have h23 := Yw3cK0.out; have h24 := Yw3cK4.out; have h25 := Yw3cKA4.out; have h26 := Yw3cK6.out; have h27 := Sw3c.out; have h28 := Zw3c.out; have h29 := Yw4K0.out; have h30 := Yw4K4.out; have h31 := Yw4KA4.out; have h32 := Yw4K6.out; have h33 := Sw4.out; have h34 := Zw4.out; have h35 := Sw4b.out; have h36 := HGg7.out; have h37 := Gg7.out; have h38 := Sw5.out; have h39 := Sw5a.out; have h40 := Sw7.out; have h41 := Yw7cK0.out; have h42 := Yw7cK4.out; have h43 := Yw7cKA4.out; have h44 := Yw7cK6.out; have h45 := Yw7cK7.out; have h46 := Yw7cKA7.out; have h47 := Sw7c.out; have h48 := Zw7c.out; have h49 := Sw7d.out; have h50 := Sw8.out; first | omega | (simp at *; omega)))
    have Ra := Lib.hid (OwnG.rd Oa.out)
    have O2 := Lib.hid (OwnG.out O2.out gM (by have h0 := Sw0.out; have h1 := Sw0.out; have h2 := Sw0.out; have h3 := Yw1K0.out; have h4 := Sw1.out; have h5 := Zw1.out; have h6 := Yw1cK0.out; have h7 := Sw1c.out; have h8 := Zw1c.out; have h9 := Yw2K0.out; have h10 := Sw2.out; have h11 := Zw2.out; have h12 := Sw2b.out; have h13 := HGg4.out; have h14 := Gg4.out; have h15 := Yw3K0.out; have h16 := Yw3K4.out; have h17 := Yw3KA4.out; have h18 := Sw3.out; have h19 := Zw3.out; have h20 := HGg6.out; have h21 := Sw3b.out; have h22 := Gg6.out; have h23 := Yw3cK0.out; have h24 := Yw3cK4.out; have h25 := Yw3cKA4.out; have h26 := Yw3cK6.out; have h27 := Sw3c.out; have h28 := Zw3c.out; have h29 := Yw4K0.out; have h30 := Yw4K4.out; have h31 := Yw4KA4.out; have h32 := Yw4K6.out; have h33 := Sw4.out; have h34 := Zw4.out; have h35 := Sw4b.out; have h36 := HGg7.out; have h37 := Gg7.out; have h38 := Sw5.out; have h39 := Sw5a.out; have h40 := Sw7.out; have h41 := Yw7cK0.out; have h42 := Yw7cK4.out; have h43 := Yw7cKA4.out; have h44 := Yw7cK6.out; have h45 := Yw7cK7.out; have h46 := Yw7cKA7.out; have h47 := Sw7c.out; have h48 := Zw7c.out; have h49 := Sw7d.out; have h50 := Sw8.out; first | omega | (simp at *; omega)))
    have Ob := Lib.hid (OwnG.out Ob.out gM (by have h0 := Sw0.out; have h1 := Sw0.out; have h2 := Sw0.out; have h3 := Yw1K0.out; have h4 := Sw1.out; have h5 := Zw1.out; have h6 := Yw1cK0.out; have h7 := Sw1c.out; have h8 := Zw1c.out; have h9 := Yw2K0.out; have h10 := Sw2.out; have h11 := Zw2.out; have h12 := Sw2b.out; have h13 := HGg4.out; have h14 := Gg4.out; have h15 := Yw3K0.out; have h16 := Yw3K4.out; have h17 := Yw3KA4.out; have h18 := Sw3.out; have h19 := Zw3.out; have h20 := HGg6.out; have h21 := Sw3b.out; have h22 := Gg6.out; have h23 := Yw3cK0.out; have h24 := Yw3cK4.out; have h25 := Yw3cKA4.out; have h26 := Yw3cK6.out; have h27 := Sw3c.out; have h28 := Zw3c.out; have h29 := Yw4K0.out; have h30 := Yw4K4.out; have h31 := Yw4KA4.out; have h32 := Yw4K6.out; have h33 := Sw4.out; have h34 := Zw4.out; have h35 := Sw4b.out; have h36 := HGg7.out; have h37 := Gg7.out; have h38 := Sw5.out; have h39 := Sw5a.out; have h40 := Sw7.out; have h41 := Yw7cK0.out; have h42 := Yw7cK4.out; have h43 := Yw7cKA4.out; have h44 := Yw7cK6.out; have h45 := Yw7cK7.out; have h46 := Yw7cKA7.out; have h47 := Sw7c.out; have h48 := Zw7c.out; have h49 := Sw7d.out; have h50 := Sw8.out; first | omega | (simp at *; omega)))
    have Rb := Lib.hid (OwnG.rd Ob.out)
    have Ox2 := Lib.hid oM
    have K0 : Hid (GBox _ (w.heap.size) (⟨27, s, nx, .slice p n c, .slice ps ns cs, .slice pw nw cw⟩)) := Lib.hid (GBox.out K0.out gM (by have h0 := Sw0.out; have h1 := Sw0.out; have h2 := Sw0.out; have h3 := Yw1K0.out; have h4 := Sw1.out; have h5 := Zw1.out; have h6 := Yw1cK0.out; have h7 := Sw1c.out; have h8 := Zw1c.out; have h9 := Yw2K0.out; have h10 := Sw2.out; have h11 := Zw2.out; have h12 := Sw2b.out; have h13 := HGg4.out; have h14 := Gg4.out; have h15 := Yw3K0.out; have h16 := Yw3K4.out; have h17 := Yw3KA4.out; have h18 := Sw3.out; have h19 := Zw3.out; have h20 := HGg6.out; have h21 := Sw3b.out; have h22 := Gg6.out; have h23 := Yw3cK0.out; have h24 := Yw3cK4.out; have h25 := Yw3cKA4.out; have h26 := Yw3cK6.out; have h27 := Sw3c.out; have h28 := Zw3c.out; have h29 := Yw4K0.out; have h30 := Yw4K4.out; have h31 := Yw4KA4.out; have h32 := Yw4K6.out; have h33 := Sw4.out; have h34 := Zw4.out; have h35 := Sw4b.out; have h36 := HGg7.out; have h37 := Gg7.out; have h38 := Sw5.out; have h39 := Sw5a.out; have h40 := Sw7.out; have h41 := Yw7cK0.out; have h42 := Yw7cK4.out; have h43 := Yw7cKA4.out; have h44 := Yw7cK6.out; have h45 := Yw7cK7.out; have h46 := Yw7cKA7.out; have h47 := Sw7c.out; have h48 := Zw7c.out; have h49 := Sw7d.out; have h50 := Sw8.out; first | omega | (simp at *; omega)))
    try clear k0a k0b k0c k0d k0e k0z
    have k0z := K0.out.lt
    obtain ⟨k0a, k0b, k0c, k0d, k0e⟩ := K0.out.cell
    have K4 : Hid (GBox _ (g4) (⟨33, s1, n1, .slice pa a1 ca, .slice psa a2 csa, .slice pwa a3 cwa⟩)) := Lib.hid (GBox.out K4.out gM (by have h0 := Sw0.out; have h1 := Sw0.out; have h2 := Sw0.out; have h3 := Yw1K0.out; have h4 := Sw1.out; have h5 := Zw1.out; have h6 := Yw1cK0.out; have h7 := Sw1c.out; have h8 := Zw1c.out; have h9 := Yw2K0.out; have h10 := Sw2.out; have h11 := Zw2.out; have h12 := Sw2b.out; have h13 := HGg4.out; have h14 := Gg4.out; have h15 := Yw3K0.out; have h16 := Yw3K4.out; have h17 := Yw3KA4.out; have h18 := Sw3.out; have h19 := Zw3.out; have h20 := HGg6.out; have h21 := Sw3b.out; have h22 := Gg6.out; have h23 := Yw3cK0.out; have h24 := Yw3cK4.out; have h25 := Yw3cKA4.out; have h26 := Yw3cK6.out; have h27 := Sw3c.out; have h28 := Zw3c.out; have h29 := Yw4K0.out; have h30 := Yw4K4.out; have h31 := Yw4KA4.out; have h32 := Yw4K6.out; have h33 := Sw4.out; have h34 := Zw4.out; have h35 := Sw4b.out; have h36 := HGg7.out; have h37 := Gg7.out; have h38 := Sw5.out; have h39 := Sw5a.out; have h40 := Sw7.out; have h41 := Yw7cK0.out; have h42 := Yw7cK4.out; have h43 := Yw7cKA4.out; have h44 := Yw7cK6.out; have h45 := Yw7cK7.out; have h46 := Yw7cKA7.out; have h47 := Sw7c.out; have h48 := Zw7c.out; have h49 := Sw7d.out; have h50 := Sw8.out; first | omega | (simp at *; omega)))
    try clear k4a k4b k4c k4d k4e k4z
    have k4z := K4.out.lt
    obtain ⟨k4a, k4b, k4c, k4d, k4e⟩ := K4.out.cell
    have KA4 : Hid (Box _ (g4 + 1) (r1)) := Lib.hid (Box.out KA4.out gM (by have h0 := Sw0.out; have h1 := Sw0.out; have h2 := Sw0.out; have h3 := Yw1K0.out; have h4 := Sw1.out; have h5 := Zw1.out; have h6 := Yw1cK0.out; have h7 := Sw1c.out; have h8 := Zw1c.out; have h9 := Yw2K0.out; have h10 := Sw2.out; have h11 := Zw2.out; have h12 := Sw2b.out; have h13 := HGg4.out; have h14 := Gg4.out; have h15 := Yw3K0.out; have h16 := Yw3K4.out; have h17 := Yw3KA4.out; have h18 := Sw3.out; have h19 := Zw3.out; have h20 := HGg6.out; have h21 := Sw3b.out; have h22 := Gg6.out; have h23 := Yw3cK0.out; have h24 := Yw3cK4.out; have h25 := Yw3cKA4.out; have h26 := Yw3cK6.out; have h27 := Sw3c.out; have h28 := Zw3c.out; have h29 := Yw4K0.out; have h30 := Yw4K4.out; have h31 := Yw4KA4.out; have h32 := Yw4K6.out; have h33 := Sw4.out; have h34 := Zw4.out; have h35 := Sw4b.out; have h36 := HGg7.out; have h37 := Gg7.out; have h38 := Sw5.out; have h39 := Sw5a.out; have h40 := Sw7.out; have h41 := Yw7cK0.out; have h42 := Yw7cK4.out; have h43 := Yw7cKA4.out; have h44 := Yw7cK6.out; have h45 := Yw7cK7.out; have h46 := Yw7cKA7.out; have h47 := Sw7c.out; have h48 := Zw7c.out; have h49 := Sw7d.out; have h50 := Sw8.out; first | omega | (simp at *; omega)))
    try clear ka4a ka4b ka4c ka4d ka4z
    have ka4z := KA4.out.lt
    obtain ⟨ka4a, ka4b, ka4c, ka4d⟩ := KA4.out.cell
    have K6 : Hid (GBox _ (g6) (⟨33, s, nx, .slice p2 n c2, .slice ps2 ns cs2, .slice pw2 nw cw2⟩)) := Lib.hid (GBox.out K6.out gM (by have h0 := Sw0.out; have h1 := Sw0.out; have h2 := Sw0.out; have h3 := Yw1K0.out; have h4 := Sw1.out; have h5 := Zw1.out; have h6 := Yw1cK0.out; have h7 := Sw1c.out; have h8 := Zw1c.out; have h9 := Yw2K0.out; have h10 := Sw2.out; have h11 := Zw2.out; have h12 := Sw2b.out; have h13 := HGg4.out; have h14 := Gg4.out; have h15 := Yw3K0.out; have h16 := Yw3K4.out; have h17 := Yw3KA4.out; have h18 := Sw3.out; have h19 := Zw3.out; have h20 := HGg6.out; have h21 := Sw3b.out; have h22 := Gg6.out; have h23 := Yw3cK0.out; have h24 := Yw3cK4.out; have h25 := Yw3cKA4.out; have h26 := Yw3cK6.out; have h27 := Sw3c.out; have h28 := Zw3c.out; have h29 := Yw4K0.out; have h30 := Yw4K4.out; have h31 := Yw4KA4.out; have h32 := Yw4K6.out; have h33 := Sw4.out; have h34 := Zw4.out; have h35 := Sw4b.out; have h36 := HGg7.out; have h37 := Gg7.out; have h38 := Sw5.out; have h39 := Sw5a.out; have h40 := Sw7.out; have h41 := Yw7cK0.out; have h42 := Yw7cK4.out; have h43 := Yw7cKA4.out; have h44 := Yw7cK6.out; have h45 := Yw7cK7.out; have h46 := Yw7cKA7.out; have h47 := Sw7c.out; have h48 := Zw7c.out; have h49 := Sw7d.out; have h50 := Sw8.out; first | omega | (simp at *; omega)))
    try clear k6a k6b k6c k6d k6e k6z
    have k6z := K6.out.lt
    obtain ⟨k6a, k6b, k6c, k6d, k6e⟩ := K6.out.cell
    have K7 : Hid (GBox _ (g7) (⟨33, s1, n1, .slice pb a1 cb, .slice psb a2 csb, .slice pwb a3 cwb⟩)) := Lib.hid (GBox.out K7.out gM (by have h0 := Sw0.out; have h1 := Sw0.out; have h2 := Sw0.out; have h3 := Yw1K0.out; have h4 := Sw1.out; have h5 := Zw1.out; have h6 := Yw1cK0.out; have h7 := Sw1c.out; have h8 := Zw1c.out; have h9 := Yw2K0.out; have h10 := Sw2.out; have h11 := Zw2.out; have h12 := Sw2b.out; have h13 := HGg4.out; have h14 := Gg4.out; have h15 := Yw3K0.out; have h16 := Yw3K4.out; have h17 := Yw3KA4.out; have h18 := Sw3.out; have h19 := Zw3.out; have h20 := HGg6.out; have h21 := Sw3b.out; have h22 := Gg6.out; have h23 := Yw3cK0.out; have h24 := Yw3cK4.out; have h25 := Yw3cKA4.out; have h26 := Yw3cK6.out; have h27 := Sw3c.out; have h28 := Zw3c.out; have h29 := Yw4K0.out; have h30 := Yw4K4.out; have h31 := Yw4KA4.out; have h32 := Yw4K6.out; have h33 := Sw4.out; have h34 := Zw4.out; have h35 := Sw4b.out; have h36 := HGg7.out; have h37 := Gg7.out; have h38 := Sw5.out; have h39 := Sw5a.out; have h40 := Sw7.out; have h41 := Yw7cK0.out; have h42 := Yw7cK4.out; have h43 := Yw7cKA4.out; have h44 := Yw7cK6.out; have h45 := Yw7cK7.out; have h46 := Yw7cKA7.out; have h47 := Sw7c.out; have h48 := Zw7c.out; have h49 := Sw7d.out; have h50 := Sw8.out; first | omega | (simp at *; omega)))
    try clear k7a k7b k7c k7d k7e k7z
    have k7z := K7.out.lt
    obtain ⟨k7a, k7b, k7c, k7d, k7e⟩ := K7.out.cell
    have KA7 : Hid (Box _ (g7 + 1) (r1)) := Lib.hid (Box.out KA7.out gM (by have h0 := Sw0.out; have h1 := Sw0.out; have h2 := Sw0.out; have h3 := Yw1K0.out; have h4 := Sw1.out; have h5 := Zw1.out; have h6 := Yw1cK0.out; have h7 := Sw1c.out; have h8 := Zw1c.out; have h9 := Yw2K0.out; have h10 := Sw2.out; have h11 := Zw2.out; have h12 := Sw2b.out; have h13 := HGg4.out; have h14 := Gg4.out; have h15 := Yw3K0.out; have h16 := Yw3K4.out; have h17 := Yw3KA4.out; have h18 := Sw3.out; have h19 := Zw3.out; have h20 := HGg6.out; have h21 := Sw3b.out; have h22 := Gg6.out; have h23 := Yw3cK0.out; have h24 := Yw3cK4.out; have h25 := Yw3cKA4.out; have h26 := Yw3cK6.out; have h27 := Sw3c.out; have h28 := Zw3c.out; have h29 := Yw4K0.out; have h30 := Yw4K4.out; have h31 := Yw4KA4.out; have h32 := Yw4K6.out; have h33 := Sw4.out; have h34 := Zw4.out; have h35 := Sw4b.out; have h36 := HGg7.out; have h37 := Gg7.out; have h38 := Sw5.out; have h39 := Sw5a.out; have h40 := Sw7.out; have h41 := Yw7cK0.out; have h42 := Yw7cK4.out; have h43 := Yw7cKA4.out; have h44 := Yw7cK6.out; have h45 := Yw7cK7.out; have h46 := Yw7cKA7.out; have h47 := Sw7c.out; have h48 := Zw7c.out; have h49 := Sw7d.out; have h50 := Sw8.out; first | omega | (simp at *; omega)))
    try clear ka7a ka7b ka7c ka7d ka7z
    have ka7z := KA7.out.lt
    obtain ⟨ka7a, ka7b, ka7c, ka7d⟩ := KA7.out.cell
    clear oM gM
    go_wp2_with fail
    refine ((eq_game s1 n1 L SC WR pb psb pwb pa psa pwa a1 cb ca a2 csb csa a3 cwb cwa _ HMm.out HMs.out HMw.out (by omega) (by omega) (by omega) Rb.out Ra.out)).mono ?_
    rintro e w9 ⟨rfl, b⟩
    have Sw9 : Hid (w8c.heap.size ≤ w9.heap.size) := Lib.hid (by first | exact b.size | (have h := b.size; simp at h; omega))
    have HB := Lib.hid (chain0 (w := w) (by repeat (first | with_reducible exact Below.refl _ _ | with_reducible exact HB.out | with_reducible apply Below.drew | with_reducible apply bdN | with_reducible refine Below.alloc ?_ (by first | exact Nat.le_refl _ | with_reducible exact HB.out.size | omega | (simp; done) | (simp; omega) | (have := HB.out.size; simp at *; omega)) _)) b)
    have HR := Lib.hid (RdG.below (by repeat (first | with_reducible exact HR.out | with_reducible apply RdG.drewN | with_reducible apply RdG.drew | with_reducible apply RdG.alloc)) b)
    have HRc := Lib.hid (Rd.below (by repeat (first | with_reducible exact HRc.out | with_reducible apply Rd.drewN | with_reducible apply Rd.drew | with_reducible apply Rd.alloc)) b)
    have Oa := Lib.hid (OwnG.below (by repeat (first | with_reducible exact Oa.out | with_reducible apply OwnG.drewN | with_reducible apply OwnG.drew | with_reducible apply OwnG.alloc)) b)
    have Ra := Lib.hid (RdG.below (by repeat (first | with_reducible exact Ra.out | with_reducible apply RdG.drewN | with_reducible apply RdG.drew | with_reducible apply RdG.alloc)) b)
    have O2 := Lib.hid (OwnG.below (by repeat (first | with_reducible exact O2.out | with_reducible apply OwnG.drewN | with_reducible apply OwnG.drew | with_reducible apply OwnG.alloc)) b)
    have Ox2 := Lib.hid (OwnC.below (by repeat (first | with_reducible exact Ox2.out | with_reducible apply OwnC.drewN | with_reducible apply OwnC.drew | with_reducible apply OwnC.alloc)) b)
    have Ob := Lib.hid (OwnG.below (by repeat (first | with_reducible exact Ob.out | with_reducible apply OwnG.drewN | with_reducible apply OwnG.drew | with_reducible apply OwnG.alloc)) b)
    have Rb := Lib.hid (RdG.below (by repeat (first | with_reducible exact Rb.out | with_reducible apply RdG.drewN | with_reducible apply RdG.drew | with_reducible apply RdG.alloc)) b)
    have K0 : Hid (GBox _ (w.heap.size) (⟨27, s, nx, .slice p n c, .slice ps ns cs, .slice pw nw cw⟩)) := Lib.hid (GBox.below (by repeat (first | with_reducible exact K0.out | with_reducible apply GBox.drewN | with_reducible apply GBox.drew | (with_reducible refine GBox.newAt ?_ ?_ <;> first | (simp; done) | rfl) | with_reducible apply GBox.alloc)) b)
    have K4 : Hid (GBox _ (g4) (⟨33, s1, n1, .slice pa a1 ca, .slice psa a2 csa, .slice pwa a3 cwa⟩)) := Lib.hid (GBox.below (by repeat (first | with_reducible exact K4.out | with_reducible apply GBox.drewN | with_reducible apply GBox.drew | (with_reducible refine GBox.newAt ?_ ?_ <;> first | (simp; done) | rfl) | with_reducible apply GBox.alloc)) b)
    have KA4 : Hid (Box _ (g4 + 1) (r1)) := Lib.hid (Box.below (by repeat (first | with_reducible exact KA4.out | with_reducible apply Box.drewN | with_reducible apply Box.drew | (with_reducible refine Box.newAt ?_ ?_ <;> first | (simp; done) | rfl) | with_reducible apply Box.alloc)) b)
    have K6 : Hid (GBox _ (g6) (⟨33, s, nx, .slice p2 n c2, .slice ps2 ns cs2, .slice pw2 nw cw2⟩)) := Lib.hid (GBox.below (by repeat (first | with_reducible exact K6.out | with_reducible apply GBox.drewN | with_reducible apply GBox.drew | (with_reducible refine GBox.newAt ?_ ?_ <;> first | (simp; done) | rfl) | with_reducible apply GBox.alloc)) b)
    have K7 : Hid (GBox _ (g7) (⟨33, s1, n1, .slice pb a1 cb, .slice psb a2 csb, .slice pwb a3 cwb⟩)) := Lib.hid (GBox.below (by repeat (first | with_reducible exact K7.out | with_reducible apply GBox.drewN | with_reducible apply GBox.drew | (with_reducible refine GBox.newAt ?_ ?_ <;> first | (simp; done) | rfl) | with_reducible apply GBox.alloc)) b)
    have KA7 : Hid (Box _ (g7 + 1) (r1)) := Lib.hid (Box.below (by repeat (first | with_reducible exact KA7.out | with_reducible apply Box.drewN | with_reducible apply Box.drew | (with_reducible refine Box.newAt ?_ ?_ <;> first | (simp; done) | rfl) | with_reducible apply Box.alloc)) b)
    try clear k0a k0b k0c k0d k0e k0z
    have k0z := K0.out.lt
    obtain ⟨k0a, k0b, k0c, k0d, k0e⟩ := K0.out.cell
    try clear k4a k4b k4c k4d k4e k4z
    have k4z := K4.out.lt
    obtain ⟨k4a, k4b, k4c, k4d, k4e⟩ := K4.out.cell
    try clear ka4a ka4b ka4c ka4d ka4z
    have ka4z := KA4.out.lt
    obtain ⟨ka4a, ka4b, ka4c, ka4d⟩ := KA4.out.cell
    try clear k6a k6b k6c k6d k6e k6z
    have k6z := K6.out.lt
    obtain ⟨k6a, k6b, k6c, k6d, k6e⟩ := K6.out.cell
    try clear k7a k7b k7c k7d k7e k7z
    have k7z := K7.out.lt
    obtain ⟨k7a, k7b, k7c, k7d, k7e⟩ := K7.out.cell
    try clear ka7a ka7b ka7c ka7d ka7z
    have ka7z := KA7.out.lt
    obtain ⟨ka7a, ka7b, ka7c, ka7d⟩ := KA7.out.cell
    clear b
    go_wp2_with fail
    refine ((HE4.out _)).mono ?_
    rintro e w9a ⟨rfl, b⟩
    have Sw9a : Hid (w9.heap.size ≤ w9a.heap.size) := Lib.hid (by first | exact b.size | (have h := b.size; simp at h; omega))
    have HB := Lib.hid (chain0 (w := w) (by repeat (first | with_reducible exact Below.refl _ _ | with_reducible exact HB.out | with_reducible apply Below.drew | with_reducible apply bdN | with_reducible refine Below.alloc ?_ (by first | exact Nat.le_refl _ | with_reducible exact HB.out.size | omega | (simp; done) | (simp; omega) | (have := HB.out.size; simp at *; omega)) _)) b)
    have HR := Lib.hid (RdG.below (by repeat (first | with_reducible exact HR.out | with_reducible apply RdG.drewN | with_reducible apply RdG.drew | with_reducible apply RdG.alloc)) b)
    have HRc := Lib.hid (Rd.below (by repeat (first | with_reducible exact HRc.out | with_reducible apply Rd.drewN | with_reducible apply Rd.drew | with_reducible apply Rd.alloc)) b)
    have Oa := Lib.hid (OwnG.below (by repeat (first | with_reducible exact Oa.out | with_reducible apply OwnG.drewN | with_reducible apply OwnG.drew | with_reducible apply OwnG.alloc)) b)
    have Ra := Lib.hid (RdG.below (by repeat (first | with_reducible exact Ra.out | with_reducible apply RdG.drewN | with_reducible apply RdG.drew | with_reducible apply RdG.alloc)) b)
    have O2 := Lib.hid (OwnG.below (by repeat (first | with_reducible exact O2.out | with_reducible apply OwnG.drewN | with_reducible apply OwnG.drew | with_reducible apply OwnG.alloc)) b)
    have Ox2 := Lib.hid (OwnC.below (by repeat (first | with_reducible exact Ox2.out | with_reducible apply OwnC.drewN | with_reducible apply OwnC.drew | with_reducible apply OwnC.alloc)) b)
    have Ob := Lib.hid (OwnG.below (by repeat (first | with_reducible exact Ob.out | with_reducible apply OwnG.drewN | with_reducible apply OwnG.drew | with_reducible apply OwnG.alloc)) b)
    have Rb := Lib.hid (RdG.below (by repeat (first | with_reducible exact Rb.out | with_reducible apply RdG.drewN | with_reducible apply RdG.drew | with_reducible apply RdG.alloc)) b)
    have K0 : Hid (GBox _ (w.heap.size) (⟨27, s, nx, .slice p n c, .slice ps ns cs, .slice pw nw cw⟩)) := Lib.hid (GBox.below (by repeat (first | with_reducible exact K0.out | with_reducible apply GBox.drewN | with_reducible apply GBox.drew | (with_reducible refine GBox.newAt ?_ ?_ <;> first | (simp; done) | rfl) | with_reducible apply GBox.alloc)) b)
    have K4 : Hid (GBox _ (g4) (⟨33, s1, n1, .slice pa a1 ca, .slice psa a2 csa, .slice pwa a3 cwa⟩)) := Lib.hid (GBox.below (by repeat (first | with_reducible exact K4.out | with_reducible apply GBox.drewN | with_reducible apply GBox.drew | (with_reducible refine GBox.newAt ?_ ?_ <;> first | (simp; done) | rfl) | with_reducible apply GBox.alloc)) b)
    have KA4 : Hid (Box _ (g4 + 1) (r1)) := Lib.hid (Box.below (by repeat (first | with_reducible exact KA4.out | with_reducible apply Box.drewN | with_reducible apply Box.drew | (with_reducible refine Box.newAt ?_ ?_ <;> first | (simp; done) | rfl) | with_reducible apply Box.alloc)) b)
    have K6 : Hid (GBox _ (g6) (⟨33, s, nx, .slice p2 n c2, .slice ps2 ns cs2, .slice pw2 nw cw2⟩)) := Lib.hid (GBox.below (by repeat (first | with_reducible exact K6.out | with_reducible apply GBox.drewN | with_reducible apply GBox.drew | (with_reducible refine GBox.newAt ?_ ?_ <;> first | (simp; done) | rfl) | with_reducible apply GBox.alloc)) b)
    have K7 : Hid (GBox _ (g7) (⟨33, s1, n1, .slice pb a1 cb, .slice psb a2 csb, .slice pwb a3 cwb⟩)) := Lib.hid (GBox.below (by repeat (first | with_reducible exact K7.out | with_reducible apply GBox.drewN | with_reducible apply GBox.drew | (with_reducible refine GBox.newAt ?_ ?_ <;> first | (simp; done) | rfl) | with_reducible apply GBox.alloc)) b)
    have KA7 : Hid (Box _ (g7 + 1) (r1)) := Lib.hid (Box.below (by repeat (first | with_reducible exact KA7.out | with_reducible apply Box.drewN | with_reducible apply Box.drew | (with_reducible refine Box.newAt ?_ ?_ <;> first | (simp; done) | rfl) | with_reducible apply Box.alloc)) b)
    try clear k0a k0b k0c k0d k0e k0z
    have k0z := K0.out.lt
    obtain ⟨k0a, k0b, k0c, k0d, k0e⟩ := K0.out.cell
    try clear k4a k4b k4c k4d k4e k4z
    have k4z := K4.out.lt
    obtain ⟨k4a, k4b, k4c, k4d, k4e⟩ := K4.out.cell
    try clear ka4a ka4b ka4c ka4d ka4z
    have ka4z := KA4.out.lt
    obtain ⟨ka4a, ka4b, ka4c, ka4d⟩ := KA4.out.cell
    try clear k6a k6b k6c k6d k6e k6z
    have k6z := K6.out.lt
    obtain ⟨k6a, k6b, k6c, k6d, k6e⟩ := K6.out.cell
    try clear k7a k7b k7c k7d k7e k7z
    have k7z := K7.out.lt
    obtain ⟨k7a, k7b, k7c, k7d, k7e⟩ := K7.out.cell
    try clear ka7a ka7b ka7c ka7d ka7z
    have ka7z := KA7.out.lt
    obtain ⟨ka7a, ka7b, ka7c, ka7d⟩ := KA7.out.cell
    clear b
    go_wp2_with fail
    refine ((mark_game s1 n1 L SC WR (.slice pb a1 cb) (.slice psb a2 csb) (.slice pwb a3 cwb) _ _ 1 a1 a2 a3 _ HMm.out HMs.out HMw.out (by omega) (by have h0 := Sw0.out; have h1 := Sw0.out; have h2 := Sw0.out; have h3 := Yw1K0.out; have h4 := Sw1.out; have h5 := Zw1.out; have h6 := Yw1cK0.out; have h7 := Sw1c.out; have h8 := Zw1c.out; have h9 := Yw2K0.out; have h10 := Sw2.out; have h11 := Zw2.out; have h12 := Sw2b.out; have h13 := HGg4.out; have h14 := Gg4.out; have h15 := Yw3K0.out; have h16 := Yw3K4.out; have h17 := Yw3KA4.out; have h18 := Sw3.out; have h19 := Zw3.out; have h20 := HGg6.out; have h21 := Sw3b.out; have h22 := Gg6.out; have h23 := Yw3cK0.out; have h24 := Yw3cK4.out; have h25 := Yw3cKA4.out; have h26 := Yw3cK6.out; have h27 := Sw3c.out; have h28 := Zw3c.out; have h29 := Yw4K0.out; have h30 := Yw4K4.out; have h31 := Yw4KA4.out; have h32 := Yw4K6.out; have h33 := Sw4.out; have h34 := Zw4.out; have h35 := Sw4b.out; have h36 := HGg7.out; have h37 := Gg7.out; have h38 := Sw5.out; have h39 := Sw5a.out; have h40 := Sw7.out; have h41 := Yw7cK0.out; have h42 := Yw7cK4.out; have h43 := Yw7cKA4.out; have h44 := Yw7cK6.out; have h45 := Yw7cK7.out; have h46 := Yw7cKA7.out; have h47 := Sw7c.out; have h48 := Zw7c.out; have h49 := Sw7d.out; have h50 := Sw8.out; have h51 := Sw8c.out; have h52 := Sw9.out; have h53 := Sw9a.out; first | omega | (show _ ≤ w9a.heap.size; omega) | (simp at *; omega)) (by have h0 := Sw0.out; have h1 := Sw0.out; have h2 := Sw0.out; have h3 := Yw1K0.out; have h4 := Sw1.out; have h5 := Zw1.out; have h6 := Yw1cK0.out; have h7 := Sw1c.out; have h8 := Zw1c.out; have h9 := Yw2K0.out; have h10 := Sw2.out; have h11 := Zw2.out; have h12 := Sw2b.out; have h13 := HGg4.out; have h14 := Gg4.out; have h15 := Yw3K0.out; have h16 := Yw3K4.out; have h17 := Yw3KA4.out; have h18 := Sw3.out; have h19 := Zw3.out; have h20 := HGg6.out; have h21 := Sw3b.out; have h22 := Gg6.out; have h23 := Yw3cK0.out; have h24 := Yw3cK4.out; have h25 := Yw3cKA4.out; have h26 := Yw3cK6.out; have h27 := Sw3c.out; have h28 := Zw3c.out; have h29 := Yw4K0.out; have h30 := Yw4K4.out; have h31 := Yw4KA4.out; have h32 := Yw4K6.out; have h33 := Sw4.out; have h34 := Zw4.out; have h35 := Sw4b.out; have h36 := HGg7.out; have h37 := Gg7.out; have h38 := Sw5.out; have h39 := Sw5a.out; have h40 := Sw7.out; have h41 := Yw7cK0.out; have h42 := Yw7cK4.out; have h43 := Yw7cKA4.out; have h44 := Yw7cK6.out; have h45 := Yw7cK7.out; have h46 := Yw7cKA7.out; have h47 := Sw7c.out; have h48 := Zw7c.out; have h49 := Sw7d.out; have h50 := Sw8.out; have h51 := Sw8c.out; have h52 := Sw9.out; have h53 := Sw9a.out; first | omega | (show _ ≤ w9a.heap.size; omega) | (simp at *; omega)) Ob.out)).mono ?_
    rintro e w10 ⟨rfl, oM, gM⟩
    have Sw10 : Hid (w9a.heap.size ≤ w10.heap.size) := Lib.hid gM.size
    have HB := Lib.hid (game.Below.out HB.out gM HB.out.size (by have h0 := Sw0.out; have h1 := Sw0.out; have h2 := Sw0.out; have h3 := Yw1K0.out; have h4 := Sw1.out; have h5 := Zw1.out; have h6 := Yw1cK0.out; have h7 := Sw1c.out; have h8 := Zw1c.out; have h9 := Yw2K0.out; have h10 := Sw2.out; have h11 := Zw2.out; have h12 := Sw2b.out; have h13 := HGg4.out; have h14 := Gg4.out; have h15 := Yw3K0.out; have h16 := Yw3K4.out; have h17 := Yw3KA4.out; have h18 := Sw3.out; have h19 := Zw3.out; have h20 := HGg6.out; have h21 := Sw3b.out; have h22 := Gg6.out; have h23 := Yw3cK0.out; have h24 := Yw3cK4.out; have h25 := Yw3cKA4.out; have h26 := Yw3cK6.out; have h27 := Sw3c.out; have h28 := Zw3c.out; have h29 := Yw4K0.out; have h30 := Yw4K4.out; have h31 := Yw4KA4.out; have h32 := Yw4K6.out; have h33 := Sw4.out; have h34 := Zw4.out; have h35 := Sw4b.out; have h36 := HGg7.out; have h37 := Gg7.out; have h38 := Sw5.out; have h39 := Sw5a.out; have h40 := Sw7.out; have h41 := Yw7cK0.out; have h42 := Yw7cK4.out; have h43 := Yw7cKA4.out; have h44 := Yw7cK6.out; have h45 := Yw7cK7.out; have h46 := Yw7cKA7.out; have h47 := Sw7c.out; have h48 := Zw7c.out; have h49 := Sw7d.out; have h50 := Sw8.out; have h51 := Sw8c.out; have h52 := Sw9.out; have h53 := Sw9a.out; first | omega | (simp at *; omega)))
    have HR := Lib.hid (RdG.below HR0.out HB.out)
    have HRc := Lib.hid (Rd.below HRc0.out HB.out)
    have Oa := Lib.hid (OwnG.out Oa.out gM (by have h0 := Sw0.out; have h1 := Sw0.out; have h2 := Sw0.out; have h3 := Yw1K0.out; have h4 := Sw1.out; have h5 := Zw1.out; have h6 := Yw1cK0.out; have h7 := Sw1c.out; have h8 := Zw1c.out; have h9 := Yw2K0.out; have h10 := Sw2.out; have h11 := Zw2.out; have h12 := Sw2b.out; have h13 := HGg4.out; have h14 := Gg4.out; have h15 := Yw3K0.out; have h16 := Yw3K4.out; have h17 := Yw3KA4.out; have h18 := Sw3.out; have h19 := Zw3.out; have h20 := HGg6.out; have h21 := Sw3b.out; have h22 := Gg6.out; have h23 := Yw3cK0.out; have h24 := Yw3cK4.out; have h25 := Yw3cKA4.out; have h26 := Yw3cK6.out; have h27 := Sw3c.out; have h28 := Zw3c.out; have h29 := Yw4K0.out; have h30 := Yw4K4.out; have h31 := Yw4KA4.out; have h32 := Yw4K6.out; have h33 := Sw4.out; have h34 := Zw4.out; have h35 := Sw4b.out; have h36 := HGg7.out; have h37 := Gg7.out; have h38 := Sw5.out; have h39 := Sw5a.out; have h40 := Sw7.out; have h41 := Yw7cK0.out; have h42 := Yw7cK4.out; have h43 := Yw7cKA4.out; have h44 := Yw7cK6.out; have h45 := Yw7cK7.out; have h46 := Yw7cKA7.out; have h47 := Sw7c.out; have h48 := Zw7c.out; have h49 := Sw7d.out; have h50 := Sw8.out; have h51 := Sw8c.out; have h52 := Sw9.out; have h53 := Sw9a.out; first | omega | (simp at *; omega)))
    have Ra := Lib.hid (OwnG.rd Oa.out)
    have Ob := Lib.hid oM
    have K0 : Hid (GBox _ (w.heap.size) (⟨27, s, nx, .slice p n c, .slice ps ns cs, .slice pw nw cw⟩)) := Lib.hid (GBox.out K0.out gM (by have h0 := Sw0.out; have h1 := Sw0.out; have h2 := Sw0.out; have h3 := Yw1K0.out; have h4 := Sw1.out; have h5 := Zw1.out; have h6 := Yw1cK0.out; have h7 := Sw1c.out; have h8 := Zw1c.out; have h9 := Yw2K0.out; have h10 := Sw2.out; have h11 := Zw2.out; have h12 := Sw2b.out; have h13 := HGg4.out; have h14 := Gg4.out; have h15 := Yw3K0.out; have h16 := Yw3K4.out; have h17 := Yw3KA4.out; have h18 := Sw3.out; have h19 := Zw3.out; have h20 := HGg6.out; have h21 := Sw3b.out; have h22 := Gg6.out; have h23 := Yw3cK0.out; have h24 := Yw3cK4.out; have h25 := Yw3cKA4.out; have h26 := Yw3cK6.out; have h27 := Sw3c.out; have h28 := Zw3c.out; have h29 := Yw4K0.out; have h30 := Yw4K4.out; have h31 := Yw4KA4.out; have h32 := Yw4K6.out; have h33 := Sw4.out; have h34 := Zw4.out; have h35 := Sw4b.out; have h36 := HGg7.out; have h37 := Gg7.out; have h38 := Sw5.out; have h39 := Sw5a.out; have h40 := Sw7.out; have h41 := Yw7cK0.out; have h42 := Yw7cK4.out; have h43 := Yw7cKA4.out; have h44 := Yw7cK6.out; have h45 := Yw7cK7.out; have h46 := Yw7cKA7.out; have h47 := Sw7c.out; have h48 := Zw7c.out; have h49 := Sw7d.out; have h50 := Sw8.out; have h51 := Sw8c.out; have h52 := Sw9.out; have h53 := Sw9a.out; first | omega | (simp at *; omega)))
    try clear k0a k0b k0c k0d k0e k0z
    have k0z := K0.out.lt
    obtain ⟨k0a, k0b, k0c, k0d, k0e⟩ := K0.out.cell
    have K4 : Hid (GBox _ (g4) (⟨33, s1, n1, .slice pa a1 ca, .slice psa a2 csa, .slice pwa a3 cwa⟩)) := Lib.hid (GBox.out K4.out gM (by have h0 := Sw0.out; have h1 := Sw0.out; have h2 := Sw0.out; have h3 := Yw1K0.out; have h4 := Sw1.out; have h5 := Zw1.out; have h6 := Yw1cK0.out; have h7 := Sw1c.out; have h8 := Zw1c.out; have h9 := Yw2K0.out; have h10 := Sw2.out; have h11 := Zw2.out; have h12 := Sw2b.out; have h13 := HGg4.out; have h14 := Gg4.out; have h15 := Yw3K0.out; have h16 := Yw3K4.out; have h17 := Yw3KA4.out; have h18 := Sw3.out; have h19 := Zw3.out; have h20 := HGg6.out; have h21 := Sw3b.out; have h22 := Gg6.out; have h23 := Yw3cK0.out; have h24 := Yw3cK4.out; have h25 := Yw3cKA4.out; have h26 := Yw3cK6.out; have h27 := Sw3c.out; have h28 := Zw3c.out; have h29 := Yw4K0.out; have h30 := Yw4K4.out; have h31 := Yw4KA4.out; have h32 := Yw4K6.out; have h33 := Sw4.out; have h34 := Zw4.out; have h35 := Sw4b.out; have h36 := HGg7.out; have h37 := Gg7.out; have h38 := Sw5.out; have h39 := Sw5a.out; have h40 := Sw7.out; have h41 := Yw7cK0.out; have h42 := Yw7cK4.out; have h43 := Yw7cKA4.out; have h44 := Yw7cK6.out; have h45 := Yw7cK7.out; have h46 := Yw7cKA7.out; have h47 := Sw7c.out; have h48 := Zw7c.out; have h49 := Sw7d.out; have h50 := Sw8.out; have h51 := Sw8c.out; have h52 := Sw9.out; have h53 := Sw9a.out; first | omega | (simp at *; omega)))
    try clear k4a k4b k4c k4d k4e k4z
    have k4z := K4.out.lt
    obtain ⟨k4a, k4b, k4c, k4d, k4e⟩ := K4.out.cell
    have KA4 : Hid (Box _ (g4 + 1) (r1)) := Lib.hid (Box.out KA4.out gM (by have h0 := Sw0.out; have h1 := Sw0.out; have h2 := Sw0.out; have h3 := Yw1K0.out; have h4 := Sw1.out; have h5 := Zw1.out; have h6 := Yw1cK0.out; have h7 := Sw1c.out; have h8 := Zw1c.out; have h9 := Yw2K0.out; have h10 := Sw2.out; have h11 := Zw2.out; have h12 := Sw2b.out; have h13 := HGg4.out; have h14 := Gg4.out; have h15 := Yw3K0.out; have h16 := Yw3K4.out; have h17 := Yw3KA4.out; have h18 := Sw3.out; have h19 := Zw3.out; have h20 := HGg6.out; have h21 := Sw3b.out; have h22 := Gg6.out; have h23 := Yw3cK0.out; have h24 := Yw3cK4.out; have h25 := Yw3cKA4.out; have h26 := Yw3cK6.out; have h27 := Sw3c.out; have h28 := Zw3c.out; have h29 := Yw4K0.out; have h30 := Yw4K4.out; have h31 := Yw4KA4.out; have h32 := Yw4K6.out; have h33 := Sw4.out; have h34 := Zw4.out; have h35 := Sw4b.out; have h36 := HGg7.out; have h37 := Gg7.out; have h38 := Sw5.out; have h39 := Sw5a.out; have h40 := Sw7.out; have h41 := Yw7cK0.out; have h42 := Yw7cK4.out; have h43 := Yw7cKA4.out; have h44 := Yw7cK6.out; have h45 := Yw7cK7.out; have h46 := Yw7cKA7.out; have h47 := Sw7c.out; have h48 := Zw7c.out; have h49 := Sw7d.out; have h50 := Sw8.out; have h51 := Sw8c.out; have h52 := Sw9.out; have h53 := Sw9a.out; first | omega | (simp at *; omega)))
    try clear ka4a ka4b ka4c ka4d ka4z
    have ka4z := KA4.out.lt
    obtain ⟨ka4a, ka4b, ka4c, ka4d⟩ := KA4.out.cell
    have K7 : Hid (GBox _ (g7) (⟨33, s1, n1, .slice pb a1 cb, .slice psb a2 csb, .slice pwb a3 cwb⟩)) := Lib.hid (GBox.out K7.out gM (by have h0 := Sw0.out; have h1 := Sw0.out; have h2 := Sw0.out; have h3 := Yw1K0.out; have h4 := Sw1.out; have h5 := Zw1.out; have h6 := Yw1cK0.out; have h7 := Sw1c.out; have h8 := Zw1c.out; have h9 := Yw2K0.out; have h10 := Sw2.out; have h11 := Zw2.out; have h12 := Sw2b.out; have h13 := HGg4.out; have h14 := Gg4.out; have h15 := Yw3K0.out; have h16 := Yw3K4.out; have h17 := Yw3KA4.out; have h18 := Sw3.out; have h19 := Zw3.out; have h20 := HGg6.out; have h21 := Sw3b.out; have h22 := Gg6.out; have h23 := Yw3cK0.out; have h24 := Yw3cK4.out; have h25 := Yw3cKA4.out; have h26 := Yw3cK6.out; have h27 := Sw3c.out; have h28 := Zw3c.out; have h29 := Yw4K0.out; have h30 := Yw4K4.out; have h31 := Yw4KA4.out; have h32 := Yw4K6.out; have h33 := Sw4.out; have h34 := Zw4.out; have h35 := Sw4b.out; have h36 := HGg7.out; have h37 := Gg7.out; have h38 := Sw5.out; have h39 := Sw5a.out; have h40 := Sw7.out; have h41 := Yw7cK0.out; have h42 := Yw7cK4.out; have h43 := Yw7cKA4.out; have h44 := Yw7cK6.out; have h45 := Yw7cK7.out; have h46 := Yw7cKA7.out; have h47 := Sw7c.out; have h48 := Zw7c.out; have h49 := Sw7d.out; have h50 := Sw8.out; have h51 := Sw8c.out; have h52 := Sw9.out; have h53 := Sw9a.out; first | omega | (simp at *; omega)))
    try clear k7a k7b k7c k7d k7e k7z
    have k7z := K7.out.lt
    obtain ⟨k7a, k7b, k7c, k7d, k7e⟩ := K7.out.cell
    have KA7 : Hid (Box _ (g7 + 1) (r1)) := Lib.hid (Box.out KA7.out gM (by have h0 := Sw0.out; have h1 := Sw0.out; have h2 := Sw0.out; have h3 := Yw1K0.out; have h4 := Sw1.out; have h5 := Zw1.out; have h6 := Yw1cK0.out; have h7 := Sw1c.out; have h8 := Zw1c.out; have h9 := Yw2K0.out; have h10 := Sw2.out; have h11 := Zw2.out; have h12 := Sw2b.out; have h13 := HGg4.out; have h14 := Gg4.out; have h15 := Yw3K0.out; have h16 := Yw3K4.out; have h17 := Yw3KA4.out; have h18 := Sw3.out; have h19 := Zw3.out; have h20 := HGg6.out; have h21 := Sw3b.out; have h22 := Gg6.out; have h23 := Yw3cK0.out; have h24 := Yw3cK4.out; have h25 := Yw3cKA4.out; have h26 := Yw3cK6.out; have h27 := Sw3c.out; have h28 := Zw3c.out; have h29 := Yw4K0.out; have h30 := Yw4K4.out; have h31 := Yw4KA4.out; have h32 := Yw4K6.out; have h33 := Sw4.out; have h34 := Zw4.out; have h35 := Sw4b.out; have h36 := HGg7.out; have h37 := Gg7.out; have h38 := Sw5.out; have h39 := Sw5a.out; have h40 := Sw7.out; have h41 := Yw7cK0.out; have h42 := Yw7cK4.out; have h43 := Yw7cKA4.out; have h44 := Yw7cK6.out; have h45 := Yw7cK7.out; have h46 := Yw7cKA7.out; have h47 := Sw7c.out; have h48 := Zw7c.out; have h49 := Sw7d.out; have h50 := Sw8.out; have h51 := Sw8c.out; have h52 := Sw9.out; have h53 := Sw9a.out; first | omega | (simp at *; omega)))
    try clear ka7a ka7b ka7c ka7d ka7z
    have ka7z := KA7.out.lt
    obtain ⟨ka7a, ka7b, ka7c, ka7d⟩ := KA7.out.cell
    clear oM gM
    go_wp2_with fail
    refine ((held_game s1 n1 (.slice pb a1 cb) (.slice psb a2 csb) (.slice pwb a3 cwb) _ _ 1 a1 a2 a3 _ (by omega) Ob.out)).mono ?_
    rintro e w11 ⟨rfl, b⟩
    have Sw11 : Hid (w10.heap.size ≤ w11.heap.size) := Lib.hid (by first | exact b.size | (have h := b.size; simp at h; omega))
    have HB := Lib.hid (chain0 (w := w) (by repeat (first | with_reducible exact Below.refl _ _ | with_reducible exact HB.out | with_reducible apply Below.drew | with_reducible apply bdN | with_reducible refine Below.alloc ?_ (by first | exact Nat.le_refl _ | with_reducible exact HB.out.size | omega | (simp; done) | (simp; omega) | (have := HB.out.size; simp at *; omega)) _)) b)
    have HR := Lib.hid (RdG.below (by repeat (first | with_reducible exact HR.out | with_reducible apply RdG.drewN | with_reducible apply RdG.drew | with_reducible apply RdG.alloc)) b)
    have HRc := Lib.hid (Rd.below (by repeat (first | with_reducible exact HRc.out | with_reducible apply Rd.drewN | with_reducible apply Rd.drew | with_reducible apply Rd.alloc)) b)
    have Oa := Lib.hid (OwnG.below (by repeat (first | with_reducible exact Oa.out | with_reducible apply OwnG.drewN | with_reducible apply OwnG.drew | with_reducible apply OwnG.alloc)) b)
    have Ra := Lib.hid (RdG.below (by repeat (first | with_reducible exact Ra.out | with_reducible apply RdG.drewN | with_reducible apply RdG.drew | with_reducible apply RdG.alloc)) b)
    have Ob := Lib.hid (OwnG.below (by repeat (first | with_reducible exact Ob.out | with_reducible apply OwnG.drewN | with_reducible apply OwnG.drew | with_reducible apply OwnG.alloc)) b)
    have K0 : Hid (GBox _ (w.heap.size) (⟨27, s, nx, .slice p n c, .slice ps ns cs, .slice pw nw cw⟩)) := Lib.hid (GBox.below (by repeat (first | with_reducible exact K0.out | with_reducible apply GBox.drewN | with_reducible apply GBox.drew | (with_reducible refine GBox.newAt ?_ ?_ <;> first | (simp; done) | rfl) | with_reducible apply GBox.alloc)) b)
    have K4 : Hid (GBox _ (g4) (⟨33, s1, n1, .slice pa a1 ca, .slice psa a2 csa, .slice pwa a3 cwa⟩)) := Lib.hid (GBox.below (by repeat (first | with_reducible exact K4.out | with_reducible apply GBox.drewN | with_reducible apply GBox.drew | (with_reducible refine GBox.newAt ?_ ?_ <;> first | (simp; done) | rfl) | with_reducible apply GBox.alloc)) b)
    have KA4 : Hid (Box _ (g4 + 1) (r1)) := Lib.hid (Box.below (by repeat (first | with_reducible exact KA4.out | with_reducible apply Box.drewN | with_reducible apply Box.drew | (with_reducible refine Box.newAt ?_ ?_ <;> first | (simp; done) | rfl) | with_reducible apply Box.alloc)) b)
    have K7 : Hid (GBox _ (g7) (⟨33, s1, n1, .slice pb a1 cb, .slice psb a2 csb, .slice pwb a3 cwb⟩)) := Lib.hid (GBox.below (by repeat (first | with_reducible exact K7.out | with_reducible apply GBox.drewN | with_reducible apply GBox.drew | (with_reducible refine GBox.newAt ?_ ?_ <;> first | (simp; done) | rfl) | with_reducible apply GBox.alloc)) b)
    have KA7 : Hid (Box _ (g7 + 1) (r1)) := Lib.hid (Box.below (by repeat (first | with_reducible exact KA7.out | with_reducible apply Box.drewN | with_reducible apply Box.drew | (with_reducible refine Box.newAt ?_ ?_ <;> first | (simp; done) | rfl) | with_reducible apply Box.alloc)) b)
    try clear k0a k0b k0c k0d k0e k0z
    have k0z := K0.out.lt
    obtain ⟨k0a, k0b, k0c, k0d, k0e⟩ := K0.out.cell
    try clear k4a k4b k4c k4d k4e k4z
    have k4z := K4.out.lt
    obtain ⟨k4a, k4b, k4c, k4d, k4e⟩ := K4.out.cell
    try clear ka4a ka4b ka4c ka4d ka4z
    have ka4z := KA4.out.lt
    obtain ⟨ka4a, ka4b, ka4c, ka4d⟩ := KA4.out.cell
    try clear k7a k7b k7c k7d k7e k7z
    have k7z := K7.out.lt
    obtain ⟨k7a, k7b, k7c, k7d, k7e⟩ := K7.out.cell
    try clear ka7a ka7b ka7c ka7d ka7z
    have ka7z := KA7.out.lt
    obtain ⟨ka7a, ka7b, ka7c, ka7d⟩ := KA7.out.cell
    clear b
    have Yw12K0 := Lib.hid K0.out.lt
    have Yw12K4 := Lib.hid K4.out.lt
    have Yw12KA4 := Lib.hid KA4.out.lt
    have Yw12K7 := Lib.hid K7.out.lt
    have Yw12KA7 := Lib.hid KA7.out.lt
    go_wp2_with fail
    refine ((to_game s nx l sc wt p ps pw n c ns cs nw cw _ HN.out HS.out HW.out (by omega) (by omega) (by omega) HWf.out HR.out)).mono ?_
    rintro e w12 ⟨p4, c4, ps4, cs4, pw4, cw4, rfl, o4, r4, f4, b⟩
    have F4 := Lib.hid f4
    have Sw12 : Hid (w11.heap.size ≤ w12.heap.size) := Lib.hid (by first | exact b.size | (have h := b.size; simp at h; omega))
    have HB := Lib.hid (chain0 (w := w) (by repeat (first | with_reducible exact Below.refl _ _ | with_reducible exact HB.out | with_reducible apply Below.drew | with_reducible apply bdN | with_reducible refine Below.alloc ?_ (by first | exact Nat.le_refl _ | with_reducible exact HB.out.size | omega | (simp; done) | (simp; omega) | (have := HB.out.size; simp at *; omega)) _)) b)
    have Zw12 := Lib.hid HB.out.size
    have HR := Lib.hid (RdG.below (by repeat (first | with_reducible exact HR.out | with_reducible apply RdG.drewN | with_reducible apply RdG.drew | with_reducible apply RdG.alloc)) b)
    have HRc := Lib.hid (Rd.below (by repeat (first | with_reducible exact HRc.out | with_reducible apply Rd.drewN | with_reducible apply Rd.drew | with_reducible apply Rd.alloc)) b)
    have Oa := Lib.hid (OwnG.below (by repeat (first | with_reducible exact Oa.out | with_reducible apply OwnG.drewN | with_reducible apply OwnG.drew | with_reducible apply OwnG.alloc)) b)
    have Ra := Lib.hid (RdG.below (by repeat (first | with_reducible exact Ra.out | with_reducible apply RdG.drewN | with_reducible apply RdG.drew | with_reducible apply RdG.alloc)) b)
    have Ob := Lib.hid (OwnG.below (by repeat (first | with_reducible exact Ob.out | with_reducible apply OwnG.drewN | with_reducible apply OwnG.drew | with_reducible apply OwnG.alloc)) b)
    have K0 : Hid (GBox _ (w.heap.size) (⟨27, s, nx, .slice p n c, .slice ps ns cs, .slice pw nw cw⟩)) := Lib.hid (GBox.below (by repeat (first | with_reducible exact K0.out | with_reducible apply GBox.drewN | with_reducible apply GBox.drew | (with_reducible refine GBox.newAt ?_ ?_ <;> first | (simp; done) | rfl) | with_reducible apply GBox.alloc)) b)
    have K4 : Hid (GBox _ (g4) (⟨33, s1, n1, .slice pa a1 ca, .slice psa a2 csa, .slice pwa a3 cwa⟩)) := Lib.hid (GBox.below (by repeat (first | with_reducible exact K4.out | with_reducible apply GBox.drewN | with_reducible apply GBox.drew | (with_reducible refine GBox.newAt ?_ ?_ <;> first | (simp; done) | rfl) | with_reducible apply GBox.alloc)) b)
    have KA4 : Hid (Box _ (g4 + 1) (r1)) := Lib.hid (Box.below (by repeat (first | with_reducible exact KA4.out | with_reducible apply Box.drewN | with_reducible apply Box.drew | (with_reducible refine Box.newAt ?_ ?_ <;> first | (simp; done) | rfl) | with_reducible apply Box.alloc)) b)
    have K7 : Hid (GBox _ (g7) (⟨33, s1, n1, .slice pb a1 cb, .slice psb a2 csb, .slice pwb a3 cwb⟩)) := Lib.hid (GBox.below (by repeat (first | with_reducible exact K7.out | with_reducible apply GBox.drewN | with_reducible apply GBox.drew | (with_reducible refine GBox.newAt ?_ ?_ <;> first | (simp; done) | rfl) | with_reducible apply GBox.alloc)) b)
    have KA7 : Hid (Box _ (g7 + 1) (r1)) := Lib.hid (Box.below (by repeat (first | with_reducible exact KA7.out | with_reducible apply Box.drewN | with_reducible apply Box.drew | (with_reducible refine Box.newAt ?_ ?_ <;> first | (simp; done) | rfl) | with_reducible apply Box.alloc)) b)
    try clear k0a k0b k0c k0d k0e k0z
    have k0z := K0.out.lt
    obtain ⟨k0a, k0b, k0c, k0d, k0e⟩ := K0.out.cell
    try clear k4a k4b k4c k4d k4e k4z
    have k4z := K4.out.lt
    obtain ⟨k4a, k4b, k4c, k4d, k4e⟩ := K4.out.cell
    try clear ka4a ka4b ka4c ka4d ka4z
    have ka4z := KA4.out.lt
    obtain ⟨ka4a, ka4b, ka4c, ka4d⟩ := KA4.out.cell
    try clear k7a k7b k7c k7d k7e k7z
    have k7z := K7.out.lt
    obtain ⟨k7a, k7b, k7c, k7d, k7e⟩ := K7.out.cell
    try clear ka7a ka7b ka7c ka7d ka7z
    have ka7z := KA7.out.lt
    obtain ⟨ka7a, ka7b, ka7c, ka7d⟩ := KA7.out.cell
    have O4 : Hid (OwnG w12 w11.heap.size w12.heap.size _ _ _ _ _ _) := Lib.hid (OwnG.base o4 (by first | exact Nat.le_refl _ | (simp; done) | (simp; omega)))
    have R4 := Lib.hid r4
    clear b o4 r4 f4
    have Yw12cK0 := Lib.hid K0.out.lt
    have Yw12cK4 := Lib.hid K4.out.lt
    have Yw12cKA4 := Lib.hid KA4.out.lt
    have Yw12cK7 := Lib.hid K7.out.lt
    have Yw12cKA7 := Lib.hid KA7.out.lt
    go_wp2_with fail
    refine ((to_claims cl q m k _ HCn.out (by omega) HRc.out)).mono ?_
    rintro e w12c ⟨qx4, kx4, rfl, ox4, rx4, hcx4, b⟩
    have HCx4 := Lib.hid hcx4
    clear hcx4
    have Sw12c : Hid (w12.heap.size ≤ w12c.heap.size) := Lib.hid (by first | exact b.size | (have h := b.size; simp at h; omega))
    have HB := Lib.hid (chain0 (w := w) (by repeat (first | with_reducible exact Below.refl _ _ | with_reducible exact HB.out | with_reducible apply Below.drew | with_reducible apply bdN | with_reducible refine Below.alloc ?_ (by first | exact Nat.le_refl _ | with_reducible exact HB.out.size | omega | (simp; done) | (simp; omega) | (have := HB.out.size; simp at *; omega)) _)) b)
    have Zw12c := Lib.hid HB.out.size
    have HR := Lib.hid (RdG.below (by repeat (first | with_reducible exact HR.out | with_reducible apply RdG.drewN | with_reducible apply RdG.drew | with_reducible apply RdG.alloc)) b)
    have HRc := Lib.hid (Rd.below (by repeat (first | with_reducible exact HRc.out | with_reducible apply Rd.drewN | with_reducible apply Rd.drew | with_reducible apply Rd.alloc)) b)
    have Oa := Lib.hid (OwnG.below (by repeat (first | with_reducible exact Oa.out | with_reducible apply OwnG.drewN | with_reducible apply OwnG.drew | with_reducible apply OwnG.alloc)) b)
    have Ra := Lib.hid (RdG.below (by repeat (first | with_reducible exact Ra.out | with_reducible apply RdG.drewN | with_reducible apply RdG.drew | with_reducible apply RdG.alloc)) b)
    have Ob := Lib.hid (OwnG.below (by repeat (first | with_reducible exact Ob.out | with_reducible apply OwnG.drewN | with_reducible apply OwnG.drew | with_reducible apply OwnG.alloc)) b)
    have O4 := Lib.hid (OwnG.below (by repeat (first | with_reducible exact O4.out | with_reducible apply OwnG.drewN | with_reducible apply OwnG.drew | with_reducible apply OwnG.alloc)) b)
    have R4 := Lib.hid (RdG.below (by repeat (first | with_reducible exact R4.out | with_reducible apply RdG.drewN | with_reducible apply RdG.drew | with_reducible apply RdG.alloc)) b)
    have K0 : Hid (GBox _ (w.heap.size) (⟨27, s, nx, .slice p n c, .slice ps ns cs, .slice pw nw cw⟩)) := Lib.hid (GBox.below (by repeat (first | with_reducible exact K0.out | with_reducible apply GBox.drewN | with_reducible apply GBox.drew | (with_reducible refine GBox.newAt ?_ ?_ <;> first | (simp; done) | rfl) | with_reducible apply GBox.alloc)) b)
    have K4 : Hid (GBox _ (g4) (⟨33, s1, n1, .slice pa a1 ca, .slice psa a2 csa, .slice pwa a3 cwa⟩)) := Lib.hid (GBox.below (by repeat (first | with_reducible exact K4.out | with_reducible apply GBox.drewN | with_reducible apply GBox.drew | (with_reducible refine GBox.newAt ?_ ?_ <;> first | (simp; done) | rfl) | with_reducible apply GBox.alloc)) b)
    have KA4 : Hid (Box _ (g4 + 1) (r1)) := Lib.hid (Box.below (by repeat (first | with_reducible exact KA4.out | with_reducible apply Box.drewN | with_reducible apply Box.drew | (with_reducible refine Box.newAt ?_ ?_ <;> first | (simp; done) | rfl) | with_reducible apply Box.alloc)) b)
    have K7 : Hid (GBox _ (g7) (⟨33, s1, n1, .slice pb a1 cb, .slice psb a2 csb, .slice pwb a3 cwb⟩)) := Lib.hid (GBox.below (by repeat (first | with_reducible exact K7.out | with_reducible apply GBox.drewN | with_reducible apply GBox.drew | (with_reducible refine GBox.newAt ?_ ?_ <;> first | (simp; done) | rfl) | with_reducible apply GBox.alloc)) b)
    have KA7 : Hid (Box _ (g7 + 1) (r1)) := Lib.hid (Box.below (by repeat (first | with_reducible exact KA7.out | with_reducible apply Box.drewN | with_reducible apply Box.drew | (with_reducible refine Box.newAt ?_ ?_ <;> first | (simp; done) | rfl) | with_reducible apply Box.alloc)) b)
    try clear k0a k0b k0c k0d k0e k0z
    have k0z := K0.out.lt
    obtain ⟨k0a, k0b, k0c, k0d, k0e⟩ := K0.out.cell
    try clear k4a k4b k4c k4d k4e k4z
    have k4z := K4.out.lt
    obtain ⟨k4a, k4b, k4c, k4d, k4e⟩ := K4.out.cell
    try clear ka4a ka4b ka4c ka4d ka4z
    have ka4z := KA4.out.lt
    obtain ⟨ka4a, ka4b, ka4c, ka4d⟩ := KA4.out.cell
    try clear k7a k7b k7c k7d k7e k7z
    have k7z := K7.out.lt
    obtain ⟨k7a, k7b, k7c, k7d, k7e⟩ := K7.out.cell
    try clear ka7a ka7b ka7c ka7d ka7z
    have ka7z := KA7.out.lt
    obtain ⟨ka7a, ka7b, ka7c, ka7d⟩ := KA7.out.cell
    have Ox4 : Hid (OwnC w12c w12.heap.size w12c.heap.size _ _) := Lib.hid (OwnC.base ox4 (by first | exact Nat.le_refl _ | (simp; done) | (simp; omega)))
    have Rx4 := Lib.hid rx4
    clear b ox4 rx4
    have Yw13K0 := Lib.hid K0.out.lt
    have Yw13K4 := Lib.hid K4.out.lt
    have Yw13KA4 := Lib.hid KA4.out.lt
    have Yw13K7 := Lib.hid K7.out.lt
    have Yw13KA7 := Lib.hid KA7.out.lt
    go_wp2_with fail
    refine ((HIm.out p4 ps4 pw4 n c4 ns cs4 nw cw4 qx4 kx4 _ F4.out R4.out HCx4.out Rx4.out)).mono ?_
    rintro e w13 ⟨vlc, vsc, vwc, rfl, oc, b⟩
    obtain ⟨pc, cc, psc, csc, pwc, cwc, rfl, rfl, rfl, rc, _⟩ := oc.form
    rw [HMm.out, HMs.out, HMw.out] at oc ⊢
    have Sw13 : Hid (w12c.heap.size ≤ w13.heap.size) := Lib.hid (by first | exact b.size | (have h := b.size; simp at h; omega))
    have HB := Lib.hid (chain0 (w := w) (by repeat (first | with_reducible exact Below.refl _ _ | with_reducible exact HB.out | with_reducible apply Below.drew | with_reducible apply bdN | with_reducible refine Below.alloc ?_ (by first | exact Nat.le_refl _ | with_reducible exact HB.out.size | omega | (simp; done) | (simp; omega) | (have := HB.out.size; simp at *; omega)) _)) b)
    have Zw13 := Lib.hid HB.out.size
    have HR := Lib.hid (RdG.below (by repeat (first | with_reducible exact HR.out | with_reducible apply RdG.drewN | with_reducible apply RdG.drew | with_reducible apply RdG.alloc)) b)
    have HRc := Lib.hid (Rd.below (by repeat (first | with_reducible exact HRc.out | with_reducible apply Rd.drewN | with_reducible apply Rd.drew | with_reducible apply Rd.alloc)) b)
    have Oa := Lib.hid (OwnG.below (by repeat (first | with_reducible exact Oa.out | with_reducible apply OwnG.drewN | with_reducible apply OwnG.drew | with_reducible apply OwnG.alloc)) b)
    have Ra := Lib.hid (RdG.below (by repeat (first | with_reducible exact Ra.out | with_reducible apply RdG.drewN | with_reducible apply RdG.drew | with_reducible apply RdG.alloc)) b)
    have Ob := Lib.hid (OwnG.below (by repeat (first | with_reducible exact Ob.out | with_reducible apply OwnG.drewN | with_reducible apply OwnG.drew | with_reducible apply OwnG.alloc)) b)
    have O4 := Lib.hid (OwnG.below (by repeat (first | with_reducible exact O4.out | with_reducible apply OwnG.drewN | with_reducible apply OwnG.drew | with_reducible apply OwnG.alloc)) b)
    have R4 := Lib.hid (RdG.below (by repeat (first | with_reducible exact R4.out | with_reducible apply RdG.drewN | with_reducible apply RdG.drew | with_reducible apply RdG.alloc)) b)
    have Ox4 := Lib.hid (OwnC.below (by repeat (first | with_reducible exact Ox4.out | with_reducible apply OwnC.drewN | with_reducible apply OwnC.drew | with_reducible apply OwnC.alloc)) b)
    have Rx4 := Lib.hid (Rd.below (by repeat (first | with_reducible exact Rx4.out | with_reducible apply Rd.drewN | with_reducible apply Rd.drew | with_reducible apply Rd.alloc)) b)
    have K0 : Hid (GBox _ (w.heap.size) (⟨27, s, nx, .slice p n c, .slice ps ns cs, .slice pw nw cw⟩)) := Lib.hid (GBox.below (by repeat (first | with_reducible exact K0.out | with_reducible apply GBox.drewN | with_reducible apply GBox.drew | (with_reducible refine GBox.newAt ?_ ?_ <;> first | (simp; done) | rfl) | with_reducible apply GBox.alloc)) b)
    have K4 : Hid (GBox _ (g4) (⟨33, s1, n1, .slice pa a1 ca, .slice psa a2 csa, .slice pwa a3 cwa⟩)) := Lib.hid (GBox.below (by repeat (first | with_reducible exact K4.out | with_reducible apply GBox.drewN | with_reducible apply GBox.drew | (with_reducible refine GBox.newAt ?_ ?_ <;> first | (simp; done) | rfl) | with_reducible apply GBox.alloc)) b)
    have KA4 : Hid (Box _ (g4 + 1) (r1)) := Lib.hid (Box.below (by repeat (first | with_reducible exact KA4.out | with_reducible apply Box.drewN | with_reducible apply Box.drew | (with_reducible refine Box.newAt ?_ ?_ <;> first | (simp; done) | rfl) | with_reducible apply Box.alloc)) b)
    have K7 : Hid (GBox _ (g7) (⟨33, s1, n1, .slice pb a1 cb, .slice psb a2 csb, .slice pwb a3 cwb⟩)) := Lib.hid (GBox.below (by repeat (first | with_reducible exact K7.out | with_reducible apply GBox.drewN | with_reducible apply GBox.drew | (with_reducible refine GBox.newAt ?_ ?_ <;> first | (simp; done) | rfl) | with_reducible apply GBox.alloc)) b)
    have KA7 : Hid (Box _ (g7 + 1) (r1)) := Lib.hid (Box.below (by repeat (first | with_reducible exact KA7.out | with_reducible apply Box.drewN | with_reducible apply Box.drew | (with_reducible refine Box.newAt ?_ ?_ <;> first | (simp; done) | rfl) | with_reducible apply Box.alloc)) b)
    try clear k0a k0b k0c k0d k0e k0z
    have k0z := K0.out.lt
    obtain ⟨k0a, k0b, k0c, k0d, k0e⟩ := K0.out.cell
    try clear k4a k4b k4c k4d k4e k4z
    have k4z := K4.out.lt
    obtain ⟨k4a, k4b, k4c, k4d, k4e⟩ := K4.out.cell
    try clear ka4a ka4b ka4c ka4d ka4z
    have ka4z := KA4.out.lt
    obtain ⟨ka4a, ka4b, ka4c, ka4d⟩ := KA4.out.cell
    try clear k7a k7b k7c k7d k7e k7z
    have k7z := K7.out.lt
    obtain ⟨k7a, k7b, k7c, k7d, k7e⟩ := K7.out.cell
    try clear ka7a ka7b ka7c ka7d ka7z
    have ka7z := KA7.out.lt
    obtain ⟨ka7a, ka7b, ka7c, ka7d⟩ := KA7.out.cell
    have Oc : Hid (OwnG w13 w12c.heap.size w13.heap.size _ _ _ _ _ _) := Lib.hid (OwnG.base oc (by first | exact Nat.le_refl _ | (simp; done) | (simp; omega)))
    have Rc := Lib.hid rc
    clear b oc rc
    go_upto_region 32 with fail
    have K12 : Hid (GBox ((w13.alloc (Gv.obj ⟨33, s1, n1, .slice pc a1 cc, .slice psc a2 csc, .slice pwc a3 cwc⟩)).alloc (.cells #[.int .i64 r1.a, .int .i64 r1.b, .int .i64 r1.c, .int .i64 r1.d] 34)) w13.heap.size ⟨33, s1, n1, .slice pc a1 cc, .slice psc a2 csc, .slice pwc a3 cwc⟩) := Lib.hid ((GBox.newAt rfl rfl).alloc _)
    have KA12 : Hid (Box ((w13.alloc (Gv.obj ⟨33, s1, n1, .slice pc a1 cc, .slice psc a2 csc, .slice pwc a3 cwc⟩)).alloc (.cells #[.int .i64 r1.a, .int .i64 r1.b, .int .i64 r1.c, .int .i64 r1.d] 34)) (w13.heap.size + 1) r1) := Lib.hid (Box.newAt (x := r1) (o := .cells #[.int .i64 r1.a, .int .i64 r1.b, .int .i64 r1.c, .int .i64 r1.d] 34) (by simp) rfl)
    obtain ⟨g12, hg⟩ : ∃ g12, w13.heap.size = g12 := ⟨_, rfl⟩
    have HGg12 := Lib.hid hg
    rw [hg] at K12 KA12
    try rw [hg]
    clear hg
    obtain ⟨w13b, ew, b⟩ : ∃ wOPN : World, wOPN = ((w13.alloc (Gv.obj ⟨33, s1, n1, .slice pc a1 cc, .slice psc a2 csc, .slice pwc a3 cwc⟩)).alloc (.cells #[.int .i64 r1.a, .int .i64 r1.b, .int .i64 r1.c, .int .i64 r1.d] 34)) ∧ Below (((w13.alloc (Gv.obj ⟨33, s1, n1, .slice pc a1 cc, .slice psc a2 csc, .slice pwc a3 cwc⟩)).alloc (.cells #[.int .i64 r1.a, .int .i64 r1.b, .int .i64 r1.c, .int .i64 r1.d] 34))).heap.size (((w13.alloc (Gv.obj ⟨33, s1, n1, .slice pc a1 cc, .slice psc a2 csc, .slice pwc a3 cwc⟩)).alloc (.cells #[.int .i64 r1.a, .int .i64 r1.b, .int .i64 r1.c, .int .i64 r1.d] 34))) wOPN := ⟨_, rfl, Below.refl _ _⟩
    rw [← ew]
    clear ew
    have Sw13b : Hid (w13.heap.size ≤ w13b.heap.size) := Lib.hid (by first | exact b.size | (have h := b.size; simp at h; omega))
    have HB := Lib.hid (chain0 (w := w) (by repeat (first | with_reducible exact Below.refl _ _ | with_reducible exact HB.out | with_reducible apply Below.drew | with_reducible apply bdN | with_reducible refine Below.alloc ?_ (by first | exact Nat.le_refl _ | with_reducible exact HB.out.size | omega | (simp; done) | (simp; omega) | (have := HB.out.size; simp at *; omega)) _)) b)
    have HR := Lib.hid (RdG.below (by repeat (first | with_reducible exact HR.out | with_reducible apply RdG.drewN | with_reducible apply RdG.drew | with_reducible apply RdG.alloc)) b)
    have HRc := Lib.hid (Rd.below (by repeat (first | with_reducible exact HRc.out | with_reducible apply Rd.drewN | with_reducible apply Rd.drew | with_reducible apply Rd.alloc)) b)
    have Oa := Lib.hid (OwnG.below (by repeat (first | with_reducible exact Oa.out | with_reducible apply OwnG.drewN | with_reducible apply OwnG.drew | with_reducible apply OwnG.alloc)) b)
    have Ra := Lib.hid (RdG.below (by repeat (first | with_reducible exact Ra.out | with_reducible apply RdG.drewN | with_reducible apply RdG.drew | with_reducible apply RdG.alloc)) b)
    have Ob := Lib.hid (OwnG.below (by repeat (first | with_reducible exact Ob.out | with_reducible apply OwnG.drewN | with_reducible apply OwnG.drew | with_reducible apply OwnG.alloc)) b)
    have O4 := Lib.hid (OwnG.below (by repeat (first | with_reducible exact O4.out | with_reducible apply OwnG.drewN | with_reducible apply OwnG.drew | with_reducible apply OwnG.alloc)) b)
    have R4 := Lib.hid (RdG.below (by repeat (first | with_reducible exact R4.out | with_reducible apply RdG.drewN | with_reducible apply RdG.drew | with_reducible apply RdG.alloc)) b)
    have Ox4 := Lib.hid (OwnC.below (by repeat (first | with_reducible exact Ox4.out | with_reducible apply OwnC.drewN | with_reducible apply OwnC.drew | with_reducible apply OwnC.alloc)) b)
    have Rx4 := Lib.hid (Rd.below (by repeat (first | with_reducible exact Rx4.out | with_reducible apply Rd.drewN | with_reducible apply Rd.drew | with_reducible apply Rd.alloc)) b)
    have Oc := Lib.hid (OwnG.below (by repeat (first | with_reducible exact Oc.out | with_reducible apply OwnG.drewN | with_reducible apply OwnG.drew | with_reducible apply OwnG.alloc)) b)
    have Rc := Lib.hid (RdG.below (by repeat (first | with_reducible exact Rc.out | with_reducible apply RdG.drewN | with_reducible apply RdG.drew | with_reducible apply RdG.alloc)) b)
    have K0 : Hid (GBox _ (w.heap.size) (⟨27, s, nx, .slice p n c, .slice ps ns cs, .slice pw nw cw⟩)) := Lib.hid (GBox.below (by repeat (first | with_reducible exact K0.out | with_reducible apply GBox.drewN | with_reducible apply GBox.drew | (with_reducible refine GBox.newAt ?_ ?_ <;> first | (simp; done) | rfl) | with_reducible apply GBox.alloc)) b)
    have K4 : Hid (GBox _ (g4) (⟨33, s1, n1, .slice pa a1 ca, .slice psa a2 csa, .slice pwa a3 cwa⟩)) := Lib.hid (GBox.below (by repeat (first | with_reducible exact K4.out | with_reducible apply GBox.drewN | with_reducible apply GBox.drew | (with_reducible refine GBox.newAt ?_ ?_ <;> first | (simp; done) | rfl) | with_reducible apply GBox.alloc)) b)
    have KA4 : Hid (Box _ (g4 + 1) (r1)) := Lib.hid (Box.below (by repeat (first | with_reducible exact KA4.out | with_reducible apply Box.drewN | with_reducible apply Box.drew | (with_reducible refine Box.newAt ?_ ?_ <;> first | (simp; done) | rfl) | with_reducible apply Box.alloc)) b)
    have K7 : Hid (GBox _ (g7) (⟨33, s1, n1, .slice pb a1 cb, .slice psb a2 csb, .slice pwb a3 cwb⟩)) := Lib.hid (GBox.below (by repeat (first | with_reducible exact K7.out | with_reducible apply GBox.drewN | with_reducible apply GBox.drew | (with_reducible refine GBox.newAt ?_ ?_ <;> first | (simp; done) | rfl) | with_reducible apply GBox.alloc)) b)
    have KA7 : Hid (Box _ (g7 + 1) (r1)) := Lib.hid (Box.below (by repeat (first | with_reducible exact KA7.out | with_reducible apply Box.drewN | with_reducible apply Box.drew | (with_reducible refine Box.newAt ?_ ?_ <;> first | (simp; done) | rfl) | with_reducible apply Box.alloc)) b)
    have K12 : Hid (GBox _ (g12) (⟨33, s1, n1, .slice pc a1 cc, .slice psc a2 csc, .slice pwc a3 cwc⟩)) := Lib.hid (GBox.below (by repeat (first | with_reducible exact K12.out | with_reducible apply GBox.drewN | with_reducible apply GBox.drew | (with_reducible refine GBox.newAt ?_ ?_ <;> first | (simp; done) | rfl) | with_reducible apply GBox.alloc)) b)
    have KA12 : Hid (Box _ (g12 + 1) (r1)) := Lib.hid (Box.below (by repeat (first | with_reducible exact KA12.out | with_reducible apply Box.drewN | with_reducible apply Box.drew | (with_reducible refine Box.newAt ?_ ?_ <;> first | (simp; done) | rfl) | with_reducible apply Box.alloc)) b)
    try clear k0a k0b k0c k0d k0e k0z
    have k0z := K0.out.lt
    obtain ⟨k0a, k0b, k0c, k0d, k0e⟩ := K0.out.cell
    try clear k4a k4b k4c k4d k4e k4z
    have k4z := K4.out.lt
    obtain ⟨k4a, k4b, k4c, k4d, k4e⟩ := K4.out.cell
    try clear ka4a ka4b ka4c ka4d ka4z
    have ka4z := KA4.out.lt
    obtain ⟨ka4a, ka4b, ka4c, ka4d⟩ := KA4.out.cell
    try clear k7a k7b k7c k7d k7e k7z
    have k7z := K7.out.lt
    obtain ⟨k7a, k7b, k7c, k7d, k7e⟩ := K7.out.cell
    try clear ka7a ka7b ka7c ka7d ka7z
    have ka7z := KA7.out.lt
    obtain ⟨ka7a, ka7b, ka7c, ka7d⟩ := KA7.out.cell
    try clear k12a k12b k12c k12d k12e k12z
    have k12z := K12.out.lt
    obtain ⟨k12a, k12b, k12c, k12d, k12e⟩ := K12.out.cell
    try clear ka12a ka12b ka12c ka12d ka12z
    have ka12z := KA12.out.lt
    obtain ⟨ka12a, ka12b, ka12c, ka12d⟩ := KA12.out.cell
    clear b
    have Gg12 := Lib.hid KA12.out.lt
    go_wp2_with fail
    refine ((eq_game s1 n1 L SC WR pc psc pwc pa psa pwa a1 cc ca a2 csc csa a3 cwc cwa _ HMm.out HMs.out HMw.out (by omega) (by omega) (by omega) Rc.out Ra.out)).mono ?_
    rintro e w14 ⟨rfl, b⟩
    have Sw14 : Hid (w13b.heap.size ≤ w14.heap.size) := Lib.hid (by first | exact b.size | (have h := b.size; simp at h; omega))
    have HB := Lib.hid (chain0 (w := w) (by repeat (first | with_reducible exact Below.refl _ _ | with_reducible exact HB.out | with_reducible apply Below.drew | with_reducible apply bdN | with_reducible refine Below.alloc ?_ (by first | exact Nat.le_refl _ | with_reducible exact HB.out.size | omega | (simp; done) | (simp; omega) | (have := HB.out.size; simp at *; omega)) _)) b)
    have HR := Lib.hid (RdG.below (by repeat (first | with_reducible exact HR.out | with_reducible apply RdG.drewN | with_reducible apply RdG.drew | with_reducible apply RdG.alloc)) b)
    have HRc := Lib.hid (Rd.below (by repeat (first | with_reducible exact HRc.out | with_reducible apply Rd.drewN | with_reducible apply Rd.drew | with_reducible apply Rd.alloc)) b)
    have Oa := Lib.hid (OwnG.below (by repeat (first | with_reducible exact Oa.out | with_reducible apply OwnG.drewN | with_reducible apply OwnG.drew | with_reducible apply OwnG.alloc)) b)
    have Ra := Lib.hid (RdG.below (by repeat (first | with_reducible exact Ra.out | with_reducible apply RdG.drewN | with_reducible apply RdG.drew | with_reducible apply RdG.alloc)) b)
    have Ob := Lib.hid (OwnG.below (by repeat (first | with_reducible exact Ob.out | with_reducible apply OwnG.drewN | with_reducible apply OwnG.drew | with_reducible apply OwnG.alloc)) b)
    have O4 := Lib.hid (OwnG.below (by repeat (first | with_reducible exact O4.out | with_reducible apply OwnG.drewN | with_reducible apply OwnG.drew | with_reducible apply OwnG.alloc)) b)
    have R4 := Lib.hid (RdG.below (by repeat (first | with_reducible exact R4.out | with_reducible apply RdG.drewN | with_reducible apply RdG.drew | with_reducible apply RdG.alloc)) b)
    have Ox4 := Lib.hid (OwnC.below (by repeat (first | with_reducible exact Ox4.out | with_reducible apply OwnC.drewN | with_reducible apply OwnC.drew | with_reducible apply OwnC.alloc)) b)
    have Rx4 := Lib.hid (Rd.below (by repeat (first | with_reducible exact Rx4.out | with_reducible apply Rd.drewN | with_reducible apply Rd.drew | with_reducible apply Rd.alloc)) b)
    have Oc := Lib.hid (OwnG.below (by repeat (first | with_reducible exact Oc.out | with_reducible apply OwnG.drewN | with_reducible apply OwnG.drew | with_reducible apply OwnG.alloc)) b)
    have Rc := Lib.hid (RdG.below (by repeat (first | with_reducible exact Rc.out | with_reducible apply RdG.drewN | with_reducible apply RdG.drew | with_reducible apply RdG.alloc)) b)
    have K0 : Hid (GBox _ (w.heap.size) (⟨27, s, nx, .slice p n c, .slice ps ns cs, .slice pw nw cw⟩)) := Lib.hid (GBox.below (by repeat (first | with_reducible exact K0.out | with_reducible apply GBox.drewN | with_reducible apply GBox.drew | (with_reducible refine GBox.newAt ?_ ?_ <;> first | (simp; done) | rfl) | with_reducible apply GBox.alloc)) b)
    have K4 : Hid (GBox _ (g4) (⟨33, s1, n1, .slice pa a1 ca, .slice psa a2 csa, .slice pwa a3 cwa⟩)) := Lib.hid (GBox.below (by repeat (first | with_reducible exact K4.out | with_reducible apply GBox.drewN | with_reducible apply GBox.drew | (with_reducible refine GBox.newAt ?_ ?_ <;> first | (simp; done) | rfl) | with_reducible apply GBox.alloc)) b)
    have KA4 : Hid (Box _ (g4 + 1) (r1)) := Lib.hid (Box.below (by repeat (first | with_reducible exact KA4.out | with_reducible apply Box.drewN | with_reducible apply Box.drew | (with_reducible refine Box.newAt ?_ ?_ <;> first | (simp; done) | rfl) | with_reducible apply Box.alloc)) b)
    have K7 : Hid (GBox _ (g7) (⟨33, s1, n1, .slice pb a1 cb, .slice psb a2 csb, .slice pwb a3 cwb⟩)) := Lib.hid (GBox.below (by repeat (first | with_reducible exact K7.out | with_reducible apply GBox.drewN | with_reducible apply GBox.drew | (with_reducible refine GBox.newAt ?_ ?_ <;> first | (simp; done) | rfl) | with_reducible apply GBox.alloc)) b)
    have KA7 : Hid (Box _ (g7 + 1) (r1)) := Lib.hid (Box.below (by repeat (first | with_reducible exact KA7.out | with_reducible apply Box.drewN | with_reducible apply Box.drew | (with_reducible refine Box.newAt ?_ ?_ <;> first | (simp; done) | rfl) | with_reducible apply Box.alloc)) b)
    have K12 : Hid (GBox _ (g12) (⟨33, s1, n1, .slice pc a1 cc, .slice psc a2 csc, .slice pwc a3 cwc⟩)) := Lib.hid (GBox.below (by repeat (first | with_reducible exact K12.out | with_reducible apply GBox.drewN | with_reducible apply GBox.drew | (with_reducible refine GBox.newAt ?_ ?_ <;> first | (simp; done) | rfl) | with_reducible apply GBox.alloc)) b)
    have KA12 : Hid (Box _ (g12 + 1) (r1)) := Lib.hid (Box.below (by repeat (first | with_reducible exact KA12.out | with_reducible apply Box.drewN | with_reducible apply Box.drew | (with_reducible refine Box.newAt ?_ ?_ <;> first | (simp; done) | rfl) | with_reducible apply Box.alloc)) b)
    try clear k0a k0b k0c k0d k0e k0z
    have k0z := K0.out.lt
    obtain ⟨k0a, k0b, k0c, k0d, k0e⟩ := K0.out.cell
    try clear k4a k4b k4c k4d k4e k4z
    have k4z := K4.out.lt
    obtain ⟨k4a, k4b, k4c, k4d, k4e⟩ := K4.out.cell
    try clear ka4a ka4b ka4c ka4d ka4z
    have ka4z := KA4.out.lt
    obtain ⟨ka4a, ka4b, ka4c, ka4d⟩ := KA4.out.cell
    try clear k7a k7b k7c k7d k7e k7z
    have k7z := K7.out.lt
    obtain ⟨k7a, k7b, k7c, k7d, k7e⟩ := K7.out.cell
    try clear ka7a ka7b ka7c ka7d ka7z
    have ka7z := KA7.out.lt
    obtain ⟨ka7a, ka7b, ka7c, ka7d⟩ := KA7.out.cell
    try clear k12a k12b k12c k12d k12e k12z
    have k12z := K12.out.lt
    obtain ⟨k12a, k12b, k12c, k12d, k12e⟩ := K12.out.cell
    try clear ka12a ka12b ka12c ka12d ka12z
    have ka12z := KA12.out.lt
    obtain ⟨ka12a, ka12b, ka12c, ka12d⟩ := KA12.out.cell
    clear b
    go_wp2_with fail
    refine ((HE4.out _)).mono ?_
    rintro e w14a ⟨rfl, b⟩
    have Sw14a : Hid (w14.heap.size ≤ w14a.heap.size) := Lib.hid (by first | exact b.size | (have h := b.size; simp at h; omega))
    have HB := Lib.hid (chain0 (w := w) (by repeat (first | with_reducible exact Below.refl _ _ | with_reducible exact HB.out | with_reducible apply Below.drew | with_reducible apply bdN | with_reducible refine Below.alloc ?_ (by first | exact Nat.le_refl _ | with_reducible exact HB.out.size | omega | (simp; done) | (simp; omega) | (have := HB.out.size; simp at *; omega)) _)) b)
    have HR := Lib.hid (RdG.below (by repeat (first | with_reducible exact HR.out | with_reducible apply RdG.drewN | with_reducible apply RdG.drew | with_reducible apply RdG.alloc)) b)
    have HRc := Lib.hid (Rd.below (by repeat (first | with_reducible exact HRc.out | with_reducible apply Rd.drewN | with_reducible apply Rd.drew | with_reducible apply Rd.alloc)) b)
    have Oa := Lib.hid (OwnG.below (by repeat (first | with_reducible exact Oa.out | with_reducible apply OwnG.drewN | with_reducible apply OwnG.drew | with_reducible apply OwnG.alloc)) b)
    have Ra := Lib.hid (RdG.below (by repeat (first | with_reducible exact Ra.out | with_reducible apply RdG.drewN | with_reducible apply RdG.drew | with_reducible apply RdG.alloc)) b)
    have Ob := Lib.hid (OwnG.below (by repeat (first | with_reducible exact Ob.out | with_reducible apply OwnG.drewN | with_reducible apply OwnG.drew | with_reducible apply OwnG.alloc)) b)
    have O4 := Lib.hid (OwnG.below (by repeat (first | with_reducible exact O4.out | with_reducible apply OwnG.drewN | with_reducible apply OwnG.drew | with_reducible apply OwnG.alloc)) b)
    have R4 := Lib.hid (RdG.below (by repeat (first | with_reducible exact R4.out | with_reducible apply RdG.drewN | with_reducible apply RdG.drew | with_reducible apply RdG.alloc)) b)
    have Ox4 := Lib.hid (OwnC.below (by repeat (first | with_reducible exact Ox4.out | with_reducible apply OwnC.drewN | with_reducible apply OwnC.drew | with_reducible apply OwnC.alloc)) b)
    have Rx4 := Lib.hid (Rd.below (by repeat (first | with_reducible exact Rx4.out | with_reducible apply Rd.drewN | with_reducible apply Rd.drew | with_reducible apply Rd.alloc)) b)
    have Oc := Lib.hid (OwnG.below (by repeat (first | with_reducible exact Oc.out | with_reducible apply OwnG.drewN | with_reducible apply OwnG.drew | with_reducible apply OwnG.alloc)) b)
    have Rc := Lib.hid (RdG.below (by repeat (first | with_reducible exact Rc.out | with_reducible apply RdG.drewN | with_reducible apply RdG.drew | with_reducible apply RdG.alloc)) b)
    have K0 : Hid (GBox _ (w.heap.size) (⟨27, s, nx, .slice p n c, .slice ps ns cs, .slice pw nw cw⟩)) := Lib.hid (GBox.below (by repeat (first | with_reducible exact K0.out | with_reducible apply GBox.drewN | with_reducible apply GBox.drew | (with_reducible refine GBox.newAt ?_ ?_ <;> first | (simp; done) | rfl) | with_reducible apply GBox.alloc)) b)
    have K4 : Hid (GBox _ (g4) (⟨33, s1, n1, .slice pa a1 ca, .slice psa a2 csa, .slice pwa a3 cwa⟩)) := Lib.hid (GBox.below (by repeat (first | with_reducible exact K4.out | with_reducible apply GBox.drewN | with_reducible apply GBox.drew | (with_reducible refine GBox.newAt ?_ ?_ <;> first | (simp; done) | rfl) | with_reducible apply GBox.alloc)) b)
    have KA4 : Hid (Box _ (g4 + 1) (r1)) := Lib.hid (Box.below (by repeat (first | with_reducible exact KA4.out | with_reducible apply Box.drewN | with_reducible apply Box.drew | (with_reducible refine Box.newAt ?_ ?_ <;> first | (simp; done) | rfl) | with_reducible apply Box.alloc)) b)
    have K7 : Hid (GBox _ (g7) (⟨33, s1, n1, .slice pb a1 cb, .slice psb a2 csb, .slice pwb a3 cwb⟩)) := Lib.hid (GBox.below (by repeat (first | with_reducible exact K7.out | with_reducible apply GBox.drewN | with_reducible apply GBox.drew | (with_reducible refine GBox.newAt ?_ ?_ <;> first | (simp; done) | rfl) | with_reducible apply GBox.alloc)) b)
    have KA7 : Hid (Box _ (g7 + 1) (r1)) := Lib.hid (Box.below (by repeat (first | with_reducible exact KA7.out | with_reducible apply Box.drewN | with_reducible apply Box.drew | (with_reducible refine Box.newAt ?_ ?_ <;> first | (simp; done) | rfl) | with_reducible apply Box.alloc)) b)
    have K12 : Hid (GBox _ (g12) (⟨33, s1, n1, .slice pc a1 cc, .slice psc a2 csc, .slice pwc a3 cwc⟩)) := Lib.hid (GBox.below (by repeat (first | with_reducible exact K12.out | with_reducible apply GBox.drewN | with_reducible apply GBox.drew | (with_reducible refine GBox.newAt ?_ ?_ <;> first | (simp; done) | rfl) | with_reducible apply GBox.alloc)) b)
    have KA12 : Hid (Box _ (g12 + 1) (r1)) := Lib.hid (Box.below (by repeat (first | with_reducible exact KA12.out | with_reducible apply Box.drewN | with_reducible apply Box.drew | (with_reducible refine Box.newAt ?_ ?_ <;> first | (simp; done) | rfl) | with_reducible apply Box.alloc)) b)
    try clear k0a k0b k0c k0d k0e k0z
    have k0z := K0.out.lt
    obtain ⟨k0a, k0b, k0c, k0d, k0e⟩ := K0.out.cell
    try clear k4a k4b k4c k4d k4e k4z
    have k4z := K4.out.lt
    obtain ⟨k4a, k4b, k4c, k4d, k4e⟩ := K4.out.cell
    try clear ka4a ka4b ka4c ka4d ka4z
    have ka4z := KA4.out.lt
    obtain ⟨ka4a, ka4b, ka4c, ka4d⟩ := KA4.out.cell
    try clear k7a k7b k7c k7d k7e k7z
    have k7z := K7.out.lt
    obtain ⟨k7a, k7b, k7c, k7d, k7e⟩ := K7.out.cell
    try clear ka7a ka7b ka7c ka7d ka7z
    have ka7z := KA7.out.lt
    obtain ⟨ka7a, ka7b, ka7c, ka7d⟩ := KA7.out.cell
    try clear k12a k12b k12c k12d k12e k12z
    have k12z := K12.out.lt
    obtain ⟨k12a, k12b, k12c, k12d, k12e⟩ := K12.out.cell
    try clear ka12a ka12b ka12c ka12d ka12z
    have ka12z := KA12.out.lt
    obtain ⟨ka12a, ka12b, ka12c, ka12d⟩ := KA12.out.cell
    clear b
    go_wp2_with fail
    refine ((held_game s1 n1 (.slice pb a1 cb) (.slice psb a2 csb) (.slice pwb a3 cwb) _ _ 1 a1 a2 a3 _ (by omega) Ob.out)).mono ?_
    rintro e w15 ⟨rfl, b⟩
    have Sw15 : Hid (w14a.heap.size ≤ w15.heap.size) := Lib.hid (by first | exact b.size | (have h := b.size; simp at h; omega))
    have HB := Lib.hid (chain0 (w := w) (by repeat (first | with_reducible exact Below.refl _ _ | with_reducible exact HB.out | with_reducible apply Below.drew | with_reducible apply bdN | with_reducible refine Below.alloc ?_ (by first | exact Nat.le_refl _ | with_reducible exact HB.out.size | omega | (simp; done) | (simp; omega) | (have := HB.out.size; simp at *; omega)) _)) b)
    have HR := Lib.hid (RdG.below (by repeat (first | with_reducible exact HR.out | with_reducible apply RdG.drewN | with_reducible apply RdG.drew | with_reducible apply RdG.alloc)) b)
    have HRc := Lib.hid (Rd.below (by repeat (first | with_reducible exact HRc.out | with_reducible apply Rd.drewN | with_reducible apply Rd.drew | with_reducible apply Rd.alloc)) b)
    have Oa := Lib.hid (OwnG.below (by repeat (first | with_reducible exact Oa.out | with_reducible apply OwnG.drewN | with_reducible apply OwnG.drew | with_reducible apply OwnG.alloc)) b)
    have Ra := Lib.hid (RdG.below (by repeat (first | with_reducible exact Ra.out | with_reducible apply RdG.drewN | with_reducible apply RdG.drew | with_reducible apply RdG.alloc)) b)
    have Ob := Lib.hid (OwnG.below (by repeat (first | with_reducible exact Ob.out | with_reducible apply OwnG.drewN | with_reducible apply OwnG.drew | with_reducible apply OwnG.alloc)) b)
    have O4 := Lib.hid (OwnG.below (by repeat (first | with_reducible exact O4.out | with_reducible apply OwnG.drewN | with_reducible apply OwnG.drew | with_reducible apply OwnG.alloc)) b)
    have R4 := Lib.hid (RdG.below (by repeat (first | with_reducible exact R4.out | with_reducible apply RdG.drewN | with_reducible apply RdG.drew | with_reducible apply RdG.alloc)) b)
    have Ox4 := Lib.hid (OwnC.below (by repeat (first | with_reducible exact Ox4.out | with_reducible apply OwnC.drewN | with_reducible apply OwnC.drew | with_reducible apply OwnC.alloc)) b)
    have Rx4 := Lib.hid (Rd.below (by repeat (first | with_reducible exact Rx4.out | with_reducible apply Rd.drewN | with_reducible apply Rd.drew | with_reducible apply Rd.alloc)) b)
    have Oc := Lib.hid (OwnG.below (by repeat (first | with_reducible exact Oc.out | with_reducible apply OwnG.drewN | with_reducible apply OwnG.drew | with_reducible apply OwnG.alloc)) b)
    have Rc := Lib.hid (RdG.below (by repeat (first | with_reducible exact Rc.out | with_reducible apply RdG.drewN | with_reducible apply RdG.drew | with_reducible apply RdG.alloc)) b)
    have K0 : Hid (GBox _ (w.heap.size) (⟨27, s, nx, .slice p n c, .slice ps ns cs, .slice pw nw cw⟩)) := Lib.hid (GBox.below (by repeat (first | with_reducible exact K0.out | with_reducible apply GBox.drewN | with_reducible apply GBox.drew | (with_reducible refine GBox.newAt ?_ ?_ <;> first | (simp; done) | rfl) | with_reducible apply GBox.alloc)) b)
    have K4 : Hid (GBox _ (g4) (⟨33, s1, n1, .slice pa a1 ca, .slice psa a2 csa, .slice pwa a3 cwa⟩)) := Lib.hid (GBox.below (by repeat (first | with_reducible exact K4.out | with_reducible apply GBox.drewN | with_reducible apply GBox.drew | (with_reducible refine GBox.newAt ?_ ?_ <;> first | (simp; done) | rfl) | with_reducible apply GBox.alloc)) b)
    have KA4 : Hid (Box _ (g4 + 1) (r1)) := Lib.hid (Box.below (by repeat (first | with_reducible exact KA4.out | with_reducible apply Box.drewN | with_reducible apply Box.drew | (with_reducible refine Box.newAt ?_ ?_ <;> first | (simp; done) | rfl) | with_reducible apply Box.alloc)) b)
    have K7 : Hid (GBox _ (g7) (⟨33, s1, n1, .slice pb a1 cb, .slice psb a2 csb, .slice pwb a3 cwb⟩)) := Lib.hid (GBox.below (by repeat (first | with_reducible exact K7.out | with_reducible apply GBox.drewN | with_reducible apply GBox.drew | (with_reducible refine GBox.newAt ?_ ?_ <;> first | (simp; done) | rfl) | with_reducible apply GBox.alloc)) b)
    have KA7 : Hid (Box _ (g7 + 1) (r1)) := Lib.hid (Box.below (by repeat (first | with_reducible exact KA7.out | with_reducible apply Box.drewN | with_reducible apply Box.drew | (with_reducible refine Box.newAt ?_ ?_ <;> first | (simp; done) | rfl) | with_reducible apply Box.alloc)) b)
    have K12 : Hid (GBox _ (g12) (⟨33, s1, n1, .slice pc a1 cc, .slice psc a2 csc, .slice pwc a3 cwc⟩)) := Lib.hid (GBox.below (by repeat (first | with_reducible exact K12.out | with_reducible apply GBox.drewN | with_reducible apply GBox.drew | (with_reducible refine GBox.newAt ?_ ?_ <;> first | (simp; done) | rfl) | with_reducible apply GBox.alloc)) b)
    have KA12 : Hid (Box _ (g12 + 1) (r1)) := Lib.hid (Box.below (by repeat (first | with_reducible exact KA12.out | with_reducible apply Box.drewN | with_reducible apply Box.drew | (with_reducible refine Box.newAt ?_ ?_ <;> first | (simp; done) | rfl) | with_reducible apply Box.alloc)) b)
    try clear k0a k0b k0c k0d k0e k0z
    have k0z := K0.out.lt
    obtain ⟨k0a, k0b, k0c, k0d, k0e⟩ := K0.out.cell
    try clear k4a k4b k4c k4d k4e k4z
    have k4z := K4.out.lt
    obtain ⟨k4a, k4b, k4c, k4d, k4e⟩ := K4.out.cell
    try clear ka4a ka4b ka4c ka4d ka4z
    have ka4z := KA4.out.lt
    obtain ⟨ka4a, ka4b, ka4c, ka4d⟩ := KA4.out.cell
    try clear k7a k7b k7c k7d k7e k7z
    have k7z := K7.out.lt
    obtain ⟨k7a, k7b, k7c, k7d, k7e⟩ := K7.out.cell
    try clear ka7a ka7b ka7c ka7d ka7z
    have ka7z := KA7.out.lt
    obtain ⟨ka7a, ka7b, ka7c, ka7d⟩ := KA7.out.cell
    try clear k12a k12b k12c k12d k12e k12z
    have k12z := K12.out.lt
    obtain ⟨k12a, k12b, k12c, k12d, k12e⟩ := K12.out.cell
    try clear ka12a ka12b ka12c ka12d ka12z
    have ka12z := KA12.out.lt
    obtain ⟨ka12a, ka12b, ka12c, ka12d⟩ := KA12.out.cell
    clear b
    go_wp2_with fail
    go_ret
    exact ⟨rfl, by repeat (first | with_reducible exact Below.refl _ _ | with_reducible exact HB.out | with_reducible apply Below.drew | with_reducible apply bdN | with_reducible refine Below.alloc ?_ (by first | exact Nat.le_refl _ | with_reducible exact HB.out.size | omega | (simp; done) | (simp; omega) | (have := HB.out.size; simp at *; omega)) _)⟩

theorem own : ownKnob Try.prog.godebug = none := by kernel_rfl
theorem laidOut : laidOutB Try.prog = true := by kernel_rfl
set_option maxRecDepth 100000 in
set_option maxHeartbeats 1000000 in
theorem lifted (os : Os) (started : os.Started) (H : Type) (enc : TypeId × Value → H) :
    ReturnsInHanded {} Try.checked os 3 .any (Rows.fnExactRunClaimsSpec.pre6 enc Try.prog Try.f3 Rows.fnExactRunClaimsRow.domain false) (Rows.fnExactRunClaimsSpec.post enc Try.prog Try.f3 false true false false) := by
  refine returnsInHanded_of_change (C := Try.checked) own started (by kernel_rfl) Try.func3
    (ChangeSpec.witness6 (enc := enc) (C := Try.checked) false ⟨#[], #[.agg #[.int .i64 0, .int .i64 0, .slice none 0 0, .slice none 0 0, .slice none 0 0], .slice none 0 0], []⟩ 8 (by kernel_rfl) (by kernel_rfl) (by kernel_rfl) (by kernel_rfl)) ?_
  intro W base args ds gs before hval0 hW hcnd _
  have hval : ∀ (j : Nat) t v, Try.f3.params[j]? = some t → args[j]? = some v → Value.okWide Try.prog W .any base t v := hval0
  have hW' := hW
  obtain ⟨p, q, hA0, hV, rfl, hfz, hnd⟩ := hW
  have hA : DataW.TrodAll enc Try.prog W 0 (fun _ => true) true Try.f3.params.toList args.toList ds p := hA0
  rw [Try.params3] at hA hval
  have hR := fun (W' : World) (hb : Below W.heap.size W W') => frame.still_all laidOut hb _ _ _ _ (by decide +kernel) hA
  obtain ⟨v0, vs0, d0, ds0, p0, q0, hargs, rfl, hp, h0, r0⟩ := trodAll_cons hA
  obtain ⟨v1, vs1, d1, ds1, p1, q1, rfl, rfl, hp1, h1, r1⟩ := trodAll_cons r0
  obtain ⟨rfl, rfl, hpn⟩ := trodAll_nil r1
  obtain rfl : args = #[v0, v1] := by cases args; simp_all
  obtain ⟨rfl, rfl⟩ := trodVars_none hV
  obtain ⟨s0, x0, b0, n0, c0, l0, bs0, ns0, cs0, sc0, bw0, nw0, cw0, wt0, rfl, w0⟩ := frame.open_game Try.underlying27 rfl rfl rfl rfl rfl rfl Try.underlying24 rfl rfl rfl rfl rfl rfl Try.underlying3 (by kernel_rfl) Try.underlying22 (by kernel_rfl) Try.underlying34 Try.underlying3 (by kernel_rfl) (by kernel_rfl) Try.underlying25 (by kernel_rfl) (by kernel_rfl) (by kernel_rfl) (hval 0 27 v0 rfl rfl) h0
  obtain ⟨b1, n1, c1, l1, rfl, w1⟩ := frame.open_claims Try.underlying28 Try.underlying65 rfl rfl rfl rfl Try.underlying3 (by kernel_rfl) Try.underlying59 (by kernel_rfl) (by kernel_rfl) (hval 1 28 v1 rfl rfl) h1
  clear hA0 hval0
  simp only [List.append_nil] at hW'
  refine (walk s0 x0 b0 n0 c0 l0 bs0 ns0 cs0 sc0 bw0 nw0 cw0 wt0 b1 n1 c1 l1 W w0 w1).mono fun e W' ⟨he, hw⟩ => ?_
  subst he
  exact ⟨_, rfl, _, _, _, [], p, [], hW', trodAll_mk1 (shut_bool Try.underlying4 _), hR W' hw, rfl, hw.frame _, fun h => by cases h⟩

theorem over : Rows.fnExactRunClaimsRow.holds Try.pinned (OpenSpec.ofChange Rows.fnExactRunClaimsSpec) :=
  OpenClaim.holds_of_wide 3 Try.f3 rfl rfl rfl rfl rfl rfl rfl ⟨rfl, rfl, rfl, rfl, rfl⟩ rfl rfl rfl rfl rfl (by kernel_rfl) Try.func3 (by kernel_rfl)
    (of_decide_eq_true (by kernel_rfl)) (by unfold Func.isWrapper; first | (rw [if_pos (by decide +kernel)]; kernel_rfl) | (rw [if_neg (by decide +kernel)]; exact ⟨rfl, rfl⟩))
    (fun os started H enc _ => lifted os started H enc)

theorem proved : Rows.FnExactRunClaimsSaid := over
end Go.Proofs.Ytjpfjgoebdogjaa.lawRunClaims