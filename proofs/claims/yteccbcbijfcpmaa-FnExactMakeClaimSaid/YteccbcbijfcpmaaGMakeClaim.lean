/- FnExactMakeClaim: for every Game and every claim, valid or not, the law returns true and its arguments read as before. No condition. -/
import Derived.Test.YteccbcbijfcpmaaRows
import Derived.Test.YteccbcbijfcpmaaEb
import Derived.Test.YteccbcbijfcpmaaEe
import Derived.Test.YteccbcbijfcpmaaGMakeClaim0
import Derived.Test.YteccbcbijfcpmaaGMakeClaim1
import Derived.Test.YteccbcbijfcpmaaGMakeClaim2
namespace Go.Proofs.Yteccbcbijfcpmaa.lawMakeClaim
open Go.ChangeShapes Go.WideShapes Go.ChangeAt Go.RowKit
open Go.ChangeMaps (open_string shut_string)
open cards deal reg game
set_option linter.unusedVariables false

set_option maxRecDepth 100000 in
set_option maxHeartbeats 8000000 in
theorem walk (s nx : Int) (p : Option Addr) (n c : Nat) (l : List Cd) (ps : Option Addr) (ns cs : Nat) (sc : List Int) (pw : Option Addr) (nw cw : Nat) (wt : List Int) (cl : Cd) (w : World) (hw : l.length = n ∧ n ≤ maxLen ∧ Rd w p (flat l) ∧ (∀ x ∈ l, wfc x) ∧ (Lit.int .i64 s).wf = true ∧ (Lit.int .i64 nx).wf = true ∧ sc.length = ns ∧ ns ≤ maxLen ∧ Rd w ps (ints sc) ∧ frame.wfI sc ∧ wt.length = nw ∧ nw ≤ maxLen ∧ Rd w pw (ints wt) ∧ frame.wfI wt) (hcl : wfc cl) :
    Calls Try.prog 6 #[gval s nx (.slice p n c) (.slice ps ns cs) (.slice pw nw cw), cl.val] w fun e w' => e = .returned (.bool true) ∧ Below w.heap.size w w' := by
  obtain ⟨hn, hm, hr, hwf, _, _, hsn, hsm, hsr, _, hwn, hwm, hwr, _⟩ := hw
  have HN := Lib.hid hn
  have HS := Lib.hid hsn
  have HW := Lib.hid hwn
  have HM := Lib.hid hm
  have HMS := Lib.hid hsm
  have HMW := Lib.hid hwm
  have HWf := Lib.hid hwf
  have HR : Hid (RdG w p ps pw l sc wt) := Lib.hid ⟨hr, hsr, hwr⟩
  have HR0 := Lib.hid HR.out
  have HCl := Lib.hid hcl
  clear hcl
  clear hn hm hr hwf hsn hsm hsr hwn hwm hwr
  have HZ := Lib.hid (fun w => sz_game s nx p ps pw n c ns cs nw cw 1048576 w (by omega) (by omega) HM.out HMS.out HMW.out)
  have hz2 := fun h => szG_yes (n := n) (ns := ns) (nw := nw) h
  obtain ⟨z, hz⟩ : ∃ z, szG n ns nw 1048576 = z := ⟨_, rfl⟩
  rw [hz] at HZ hz2
  clear hz
  by_cases hz : z < 0
  · clear hz2
    go_enter Try.func6, Try.ntmps6
    go_wp2_with fail
    refine ((HZ.out _)).mono ?_
    rintro e w0 ⟨rfl, b⟩
    have Sw0 := Lib.hid b.size
    have HB := Lib.hid (chain0 (w := w) (by repeat (first | with_reducible exact Below.refl _ _ | with_reducible exact HB.out | with_reducible apply Below.drew | with_reducible apply bdN | with_reducible refine Below.alloc ?_ (by first | exact Nat.le_refl _ | with_reducible exact HB.out.size | omega | (simp; done) | (simp; omega) | (have := HB.out.size; simp at *; omega)) _ | with_reducible refine Below.setCell ?_ (by first | exact Nat.le_refl _ | with_reducible exact HB.out.size | omega | (simp; done) | (simp; omega) | (have := HB.out.size; simp at *; omega)) _)) b)
    have K0 : Hid (GBox _ (w.heap.size) (⟨35, s, nx, .slice p n c, .slice ps ns cs, .slice pw nw cw⟩)) := Lib.hid (GBox.below (by repeat (first | with_reducible exact K0.out | with_reducible apply GBox.drewN | with_reducible apply GBox.drew | (with_reducible refine GBox.newAt ?_ ?_ <;> first | (simp; done) | rfl) | with_reducible apply GBox.alloc)) b)
    try clear k0a k0b k0c k0d k0e k0z
    have k0z := K0.out.lt
    obtain ⟨k0a, k0b, k0c, k0d, k0e⟩ := K0.out.cell
    clear b
    go_wp2_with fail
    go_ret
    exact ⟨rfl, by repeat (first | with_reducible exact Below.refl _ _ | with_reducible exact HB.out | with_reducible apply Below.drew | with_reducible apply bdN | with_reducible refine Below.alloc ?_ (by first | exact Nat.le_refl _ | with_reducible exact HB.out.size | omega | (simp; done) | (simp; omega) | (have := HB.out.size; simp at *; omega)) _ | with_reducible refine Below.setCell ?_ (by first | exact Nat.le_refl _ | with_reducible exact HB.out.size | omega | (simp; done) | (simp; omega) | (have := HB.out.size; simp at *; omega)) _)⟩
  · have z1 : 0 ≤ z := by omega
    obtain ⟨zn, zs, zw, zz, zt⟩ := hz2 z1
    clear hz2 hz
    have HSp := Lib.hid (fun p ps pw n c ns cs nw cw w hf hr hc => spec_mc ⟨s, nx, l, sc, wt⟩ cl p ps pw n c ns cs nw cw w hf hr hc)
    have HIm := Lib.hid (fun p ps pw n c ns cs nw cw w hf hr hc => impl_mc ⟨s, nx, l, sc, wt⟩ cl p ps pw n c ns cs nw cw w hf hr hc)
    have HLn := Lib.hid (mcR_len ⟨s, nx, l, sc, wt⟩ cl)
    obtain ⟨s1, hs1⟩ : ∃ s1, (mcR (Gm.mk s nx l sc wt) cl).1.s = s1 := ⟨_, rfl⟩
    obtain ⟨n1, hn1⟩ : ∃ n1, (mcR (Gm.mk s nx l sc wt) cl).1.nx = n1 := ⟨_, rfl⟩
    obtain ⟨L, hL⟩ : ∃ L, (mcR (Gm.mk s nx l sc wt) cl).1.l = L := ⟨_, rfl⟩
    obtain ⟨SC, hSC⟩ : ∃ SC, (mcR (Gm.mk s nx l sc wt) cl).1.sc = SC := ⟨_, rfl⟩
    obtain ⟨WR, hWR⟩ : ∃ WR, (mcR (Gm.mk s nx l sc wt) cl).1.wr = WR := ⟨_, rfl⟩
    obtain ⟨r1, hr1⟩ : ∃ r1, (mcR (Gm.mk s nx l sc wt) cl).2.1 = r1 := ⟨_, rfl⟩
    obtain ⟨r2, hr2⟩ : ∃ r2, (mcR (Gm.mk s nx l sc wt) cl).2.2 = r2 := ⟨_, rfl⟩
    rw [hL, hSC, hWR] at HLn
    rw [hs1, hn1, hL, hSC, hWR, hr1, hr2] at HSp HIm
    clear hs1 hn1 hL hSC hWR hr1 hr2
    obtain ⟨a1, ha1⟩ : ∃ a1, L.length = a1 := ⟨_, rfl⟩
    obtain ⟨a2, ha2⟩ : ∃ a2, SC.length = a2 := ⟨_, rfl⟩
    obtain ⟨a3, ha3⟩ : ∃ a3, WR.length = a3 := ⟨_, rfl⟩
    have HMm := Lib.hid ha1
    have HMs := Lib.hid ha2
    have HMw := Lib.hid ha3
    rw [ha1, ha2, ha3] at HLn
    obtain ⟨hl1, hl2, hl3⟩ := HLn.out
    clear ha1 ha2 ha3 HLn
    go_enter Try.func6, Try.ntmps6
    have K1 : Hid (CBox ((w.alloc (Gv.obj ⟨35, s, nx, .slice p n c, .slice ps ns cs, .slice pw nw cw⟩)).alloc (Cv.obj ⟨42, cl⟩)) (w.heap.size + 1) ⟨42, cl⟩) := Lib.hid (CBox.newAt (by simp) rfl)
    go_wp2_with fail
    refine ((HZ.out _)).mono ?_
    rintro e w0 ⟨rfl, b⟩
    have Sw0 : Hid (w.heap.size ≤ w0.heap.size) := Lib.hid (by first | exact b.size | (have h := b.size; simp at h; omega))
    have HB := Lib.hid (chain0 (w := w) (by repeat (first | with_reducible exact Below.refl _ _ | with_reducible exact HB.out | with_reducible apply Below.drew | with_reducible apply bdN | with_reducible refine Below.alloc ?_ (by first | exact Nat.le_refl _ | with_reducible exact HB.out.size | omega | (simp; done) | (simp; omega) | (have := HB.out.size; simp at *; omega)) _ | with_reducible refine Below.setCell ?_ (by first | exact Nat.le_refl _ | with_reducible exact HB.out.size | omega | (simp; done) | (simp; omega) | (have := HB.out.size; simp at *; omega)) _)) b)
    have K1 := Lib.hid (CBox.below (by repeat (first | with_reducible exact K1.out | with_reducible apply CBox.drewN | with_reducible apply CBox.drew | with_reducible apply CBox.alloc)) b)
    have HR := Lib.hid (RdG.below (by repeat (first | with_reducible exact HR.out | with_reducible apply RdG.drewN | with_reducible apply RdG.drew | with_reducible apply RdG.alloc)) b)
    have K0 : Hid (GBox _ (w.heap.size) (⟨35, s, nx, .slice p n c, .slice ps ns cs, .slice pw nw cw⟩)) := Lib.hid (GBox.below (by repeat (first | with_reducible exact K0.out | with_reducible apply GBox.drewN | with_reducible apply GBox.drew | (with_reducible refine GBox.newAt ?_ ?_ <;> first | (simp; done) | rfl) | with_reducible apply GBox.alloc)) b)
    try clear k0a k0b k0c k0d k0e k0z
    have k0z := K0.out.lt
    obtain ⟨k0a, k0b, k0c, k0d, k0e⟩ := K0.out.cell
    clear b
    have GK1 := Lib.hid K1.out.lt
    go_upto_region 5 with fail
    refine region_game [(true, 0), (true, 2), (false, 1), (false, 3), (false, 4), (true, 5), (true, 6), (true, 7), (true, 8)] 9 10 6 [(11, 7, 31), (12, 8, 32)] _ _ 30 (by kernel_rfl) rfl rfl (by kernel_rfl) rfl rfl rfl rfl rfl rfl rfl rfl (by decide) (of_decide_eq_true rfl) ?_
    refine chain_load 25 rfl rfl rfl 35 _ rfl rfl #[.int .i64 s, .int .i64 nx, .slice p n c, .slice ps ns cs, .slice pw nw cw] (fun w h => GBox.below K0.out h) Try.underlying35 rfl (by kernel_rfl) ?_
    refine chain_load 27 rfl rfl rfl 42 _ rfl rfl #[.int .i64 cl.a, .int .i64 cl.b, .int .i64 cl.c, .int .i64 cl.d] (fun w h => CBox.below K1.out h) Try.underlying42 rfl (by kernel_rfl) ?_
    refine chain_callE 26 rfl rfl rfl (fun w => by kernel_rfl) (fun wy hy => (to_game s nx l sc wt p ps pw n c ns cs nw cw wy HN.out HS.out HW.out (by omega) (by omega) (by omega) HWf.out (RdG.below HR.out hy)).mono ?_)
    rintro e wz ⟨p9, c9, ps9, cs9, pw9, cw9, rfl, o9, r9, f9, b⟩
    refine ⟨_, rfl, b, fun w' => BI w0 w' ∧ RdG w' p9 ps9 pw9 l sc wt, ⟨fun _ h => h.1, fun _ h => h.1.size, fun _ h => ⟨Below.alloc h.1 h.1.size _, RdG.alloc h.2 _⟩⟩, ⟨BI.next hy b, r9⟩, ?_⟩
    have F9 := Lib.hid f9
    clear b r9 o9 f9 hy
    refine chain_callE 28 rfl rfl rfl (fun w => by kernel_rfl) (fun wy hy => (to_claim cl wy).mono ?_)
    rintro e wz ⟨rfl, b⟩
    refine ⟨_, rfl, b, fun w' => BI w0 w' ∧ RdG w' p9 ps9 pw9 l sc wt, ⟨fun _ h => h.1, fun _ h => h.1.size, fun _ h => ⟨Below.alloc h.1 h.1.size _, RdG.alloc h.2 _⟩⟩, ⟨BI.next hy.1 b, RdG.below hy.2 b⟩, ?_⟩
    clear b hy
    refine chain_callE 29 rfl rfl rfl (fun w => by kernel_rfl) (fun wy hy => (HSp.out p9 ps9 pw9 n c9 ns cs9 nw cw9 wy F9.out hy.2 HCl.out).mono ?_)
    rintro e wz ⟨vl, vs, vw, rfl, og, b⟩
    obtain ⟨pa, ca, psa, csa, pwa, cwa, rfl, rfl, rfl, -⟩ := og.form
    rw [HMm.out, HMs.out, HMw.out] at og ⊢
    obtain ⟨Ca, hCa⟩ : ∃ Ca, wz.heap.size = Ca := ⟨_, rfl⟩
    have HCa := Lib.hid (show w0.heap.size ≤ Ca by rw [← hCa]; exact Nat.le_trans (Below.size hy.1) b.size)
    rw [hCa] at og
    refine ⟨_, rfl, b, fun w' => BI w0 w' ∧ OwnG w' w0.heap.size Ca (.slice pa a1 ca) (.slice psa a2 csa) (.slice pwa a3 cwa) L SC WR ∧ Ca ≤ w'.heap.size, ⟨fun _ h => h.1, fun _ h => h.1.size, fun _ h => ⟨Below.alloc h.1 h.1.size _, OwnG.alloc h.2.1 _, Nat.le_trans h.2.2 (by simp)⟩⟩, ⟨BI.next hy.1 b, OwnG.base og (Below.size hy.1), Nat.le_of_eq hCa.symm⟩, ?_⟩
    clear b hy og hCa
    refine chain_pure 24 (v := .tuple #[gval s1 n1 (.slice pa a1 ca) (.slice psa a2 csa) (.slice pwa a3 cwa), .int .i64 r1, .bool r2]) rfl rfl rfl (fun w => by kernel_rfl) ?_
    refine chain_pure 30 (v := gval s1 n1 (.slice pa a1 ca) (.slice psa a2 csa) (.slice pwa a3 cwa)) rfl rfl rfl (fun w => by kernel_rfl) ?_
    refine chain_pure 31 (v := .int .i64 r1) rfl rfl rfl (fun w => by kernel_rfl) ?_
    refine chain_pure 32 (v := .bool r2) rfl rfl rfl (fun w => by kernel_rfl) ?_
    refine ⟨s1, n1, .slice pa a1 ca, .slice psa a2 csa, .slice pwa a3 cwa, by kernel_rfl, rfl, rfl, rfl, by kernel_rfl, ?_⟩
    clear wy wz
    intro wq w2 g4 hI hg hb hG hD
    refine ⟨_, ⟨.int .i64 r1, by kernel_rfl, ⟨.bool r2, by kernel_rfl, rfl⟩⟩, ?_⟩
    simp only [Act.put, List.setIfInBounds_toArray, List.set_cons_zero, List.set_cons_succ]
    have b : Below w0.heap.size w0 w2 := Below.grown hI.1 hG hI.1.size (fun k hk => by injection hk with hk; omega)
    have HOF4 := Lib.hid (offG hI.2.1 hb rfl)
    have Oa := Lib.hid (OwnG.off hI.2.1 hG HOF4.out)
    have Ra := Lib.hid (OwnG.rd Oa.out)
    have HEa : Hid (Ca ≤ w2.heap.size) := Lib.hid (Nat.le_trans hI.2.2 hG.size)
    have K4 := Lib.hid hD
    have GE4 : Hid (w0.heap.size ≤ g4) := Lib.hid hg
    clear hI hg hb hG hD wq
    unfold ptr
    have Sw2 : Hid (w0.heap.size ≤ w2.heap.size) := Lib.hid (by first | exact b.size | (have h := b.size; simp at h; omega))
    have HB := Lib.hid (chain0 (w := w) (by repeat (first | with_reducible exact Below.refl _ _ | with_reducible exact HB.out | with_reducible apply Below.drew | with_reducible apply bdN | with_reducible refine Below.alloc ?_ (by first | exact Nat.le_refl _ | with_reducible exact HB.out.size | omega | (simp; done) | (simp; omega) | (have := HB.out.size; simp at *; omega)) _ | with_reducible refine Below.setCell ?_ (by first | exact Nat.le_refl _ | with_reducible exact HB.out.size | omega | (simp; done) | (simp; omega) | (have := HB.out.size; simp at *; omega)) _)) b)
    have K1 := Lib.hid (CBox.below (by repeat (first | with_reducible exact K1.out | with_reducible apply CBox.drewN | with_reducible apply CBox.drew | with_reducible apply CBox.alloc)) b)
    have HR := Lib.hid (RdG.below (by repeat (first | with_reducible exact HR.out | with_reducible apply RdG.drewN | with_reducible apply RdG.drew | with_reducible apply RdG.alloc)) b)
    have K0 : Hid (GBox _ (w.heap.size) (⟨35, s, nx, .slice p n c, .slice ps ns cs, .slice pw nw cw⟩)) := Lib.hid (GBox.below (by repeat (first | with_reducible exact K0.out | with_reducible apply GBox.drewN | with_reducible apply GBox.drew | (with_reducible refine GBox.newAt ?_ ?_ <;> first | (simp; done) | rfl) | with_reducible apply GBox.alloc)) b)
    try clear k0a k0b k0c k0d k0e k0z
    have k0z := K0.out.lt
    obtain ⟨k0a, k0b, k0c, k0d, k0e⟩ := K0.out.cell
    clear b
    obtain ⟨k4a, k4b, k4c, k4d, k4e⟩ := K4.out.cell
    have k4z := K4.out.lt
    have G4 := Lib.hid k4z
    have Yw3K0 := Lib.hid K0.out.lt
    have Yw3K4 := Lib.hid K4.out.lt
    go_wp2_with fail
    refine ((to_game s nx l sc wt p ps pw n c ns cs nw cw _ HN.out HS.out HW.out (by omega) (by omega) (by omega) HWf.out HR.out)).mono ?_
    rintro e w3 ⟨p2, c2, ps2, cs2, pw2, cw2, rfl, o2, r2, f2, b⟩
    have F2 := Lib.hid f2
    have Sw3 : Hid (w2.heap.size ≤ w3.heap.size) := Lib.hid (by first | exact b.size | (have h := b.size; simp at h; omega))
    have HB := Lib.hid (chain0 (w := w) (by repeat (first | with_reducible exact Below.refl _ _ | with_reducible exact HB.out | with_reducible apply Below.drew | with_reducible apply bdN | with_reducible refine Below.alloc ?_ (by first | exact Nat.le_refl _ | with_reducible exact HB.out.size | omega | (simp; done) | (simp; omega) | (have := HB.out.size; simp at *; omega)) _ | with_reducible refine Below.setCell ?_ (by first | exact Nat.le_refl _ | with_reducible exact HB.out.size | omega | (simp; done) | (simp; omega) | (have := HB.out.size; simp at *; omega)) _)) b)
    have Zw3 := Lib.hid HB.out.size
    have K1 := Lib.hid (CBox.below (by repeat (first | with_reducible exact K1.out | with_reducible apply CBox.drewN | with_reducible apply CBox.drew | with_reducible apply CBox.alloc)) b)
    have HR := Lib.hid (RdG.below (by repeat (first | with_reducible exact HR.out | with_reducible apply RdG.drewN | with_reducible apply RdG.drew | with_reducible apply RdG.alloc)) b)
    have Oa := Lib.hid (OwnG.below (by repeat (first | with_reducible exact Oa.out | with_reducible apply OwnG.drewN | with_reducible apply OwnG.drew | with_reducible apply OwnG.alloc)) b)
    have Ra := Lib.hid (RdG.below (by repeat (first | with_reducible exact Ra.out | with_reducible apply RdG.drewN | with_reducible apply RdG.drew | with_reducible apply RdG.alloc)) b)
    have K0 : Hid (GBox _ (w.heap.size) (⟨35, s, nx, .slice p n c, .slice ps ns cs, .slice pw nw cw⟩)) := Lib.hid (GBox.below (by repeat (first | with_reducible exact K0.out | with_reducible apply GBox.drewN | with_reducible apply GBox.drew | (with_reducible refine GBox.newAt ?_ ?_ <;> first | (simp; done) | rfl) | with_reducible apply GBox.alloc)) b)
    have K4 : Hid (GBox _ (g4) (⟨27, s1, n1, .slice pa a1 ca, .slice psa a2 csa, .slice pwa a3 cwa⟩)) := Lib.hid (GBox.below (by repeat (first | with_reducible exact K4.out | with_reducible apply GBox.drewN | with_reducible apply GBox.drew | (with_reducible refine GBox.newAt ?_ ?_ <;> first | (simp; done) | rfl) | with_reducible apply GBox.alloc)) b)
    try clear k0a k0b k0c k0d k0e k0z
    have k0z := K0.out.lt
    obtain ⟨k0a, k0b, k0c, k0d, k0e⟩ := K0.out.cell
    try clear k4a k4b k4c k4d k4e k4z
    have k4z := K4.out.lt
    obtain ⟨k4a, k4b, k4c, k4d, k4e⟩ := K4.out.cell
    have O2 : Hid (OwnG w3 w2.heap.size w3.heap.size _ _ _ _ _ _) := Lib.hid (OwnG.base o2 (by first | exact Nat.le_refl _ | (simp; done) | (simp; omega)))
    have R2 := Lib.hid r2
    clear b o2 r2 f2
    go_upto_region 7 with fail
    have K6 : Hid (GBox (w3.alloc (Gv.obj (⟨27, s, nx, .slice p2 n c2, .slice ps2 ns cs2, .slice pw2 nw cw2⟩))) w3.heap.size (⟨27, s, nx, .slice p2 n c2, .slice ps2 ns cs2, .slice pw2 nw cw2⟩)) := Lib.hid (GBox.newAt rfl rfl)
    obtain ⟨g6, hg⟩ : ∃ g6, w3.heap.size = g6 := ⟨_, rfl⟩
    have HGg6 := Lib.hid hg
    rw [hg] at K6
    try rw [hg]
    clear hg
    obtain ⟨w3b, ew, b⟩ : ∃ wOPN : World, wOPN = (w3.alloc (Gv.obj (⟨27, s, nx, .slice p2 n c2, .slice ps2 ns cs2, .slice pw2 nw cw2⟩))) ∧ Below ((w3.alloc (Gv.obj (⟨27, s, nx, .slice p2 n c2, .slice ps2 ns cs2, .slice pw2 nw cw2⟩)))).heap.size ((w3.alloc (Gv.obj (⟨27, s, nx, .slice p2 n c2, .slice ps2 ns cs2, .slice pw2 nw cw2⟩)))) wOPN := ⟨_, rfl, Below.refl _ _⟩
    rw [← ew]
    clear ew
    have Sw3b : Hid (w3.heap.size ≤ w3b.heap.size) := Lib.hid (by first | exact b.size | (have h := b.size; simp at h; omega))
    have HB := Lib.hid (chain0 (w := w) (by repeat (first | with_reducible exact Below.refl _ _ | with_reducible exact HB.out | with_reducible apply Below.drew | with_reducible apply bdN | with_reducible refine Below.alloc ?_ (by first | exact Nat.le_refl _ | with_reducible exact HB.out.size | omega | (simp; done) | (simp; omega) | (have := HB.out.size; simp at *; omega)) _ | with_reducible refine Below.setCell ?_ (by first | exact Nat.le_refl _ | with_reducible exact HB.out.size | omega | (simp; done) | (simp; omega) | (have := HB.out.size; simp at *; omega)) _)) b)
    have K1 := Lib.hid (CBox.below (by repeat (first | with_reducible exact K1.out | with_reducible apply CBox.drewN | with_reducible apply CBox.drew | with_reducible apply CBox.alloc)) b)
    have HR := Lib.hid (RdG.below (by repeat (first | with_reducible exact HR.out | with_reducible apply RdG.drewN | with_reducible apply RdG.drew | with_reducible apply RdG.alloc)) b)
    have Oa := Lib.hid (OwnG.below (by repeat (first | with_reducible exact Oa.out | with_reducible apply OwnG.drewN | with_reducible apply OwnG.drew | with_reducible apply OwnG.alloc)) b)
    have Ra := Lib.hid (RdG.below (by repeat (first | with_reducible exact Ra.out | with_reducible apply RdG.drewN | with_reducible apply RdG.drew | with_reducible apply RdG.alloc)) b)
    have O2 := Lib.hid (OwnG.below (by repeat (first | with_reducible exact O2.out | with_reducible apply OwnG.drewN | with_reducible apply OwnG.drew | with_reducible apply OwnG.alloc)) b)
    have R2 := Lib.hid (RdG.below (by repeat (first | with_reducible exact R2.out | with_reducible apply RdG.drewN | with_reducible apply RdG.drew | with_reducible apply RdG.alloc)) b)
    have K0 : Hid (GBox _ (w.heap.size) (⟨35, s, nx, .slice p n c, .slice ps ns cs, .slice pw nw cw⟩)) := Lib.hid (GBox.below (by repeat (first | with_reducible exact K0.out | with_reducible apply GBox.drewN | with_reducible apply GBox.drew | (with_reducible refine GBox.newAt ?_ ?_ <;> first | (simp; done) | rfl) | with_reducible apply GBox.alloc)) b)
    have K4 : Hid (GBox _ (g4) (⟨27, s1, n1, .slice pa a1 ca, .slice psa a2 csa, .slice pwa a3 cwa⟩)) := Lib.hid (GBox.below (by repeat (first | with_reducible exact K4.out | with_reducible apply GBox.drewN | with_reducible apply GBox.drew | (with_reducible refine GBox.newAt ?_ ?_ <;> first | (simp; done) | rfl) | with_reducible apply GBox.alloc)) b)
    have K6 : Hid (GBox _ (g6) (⟨27, s, nx, .slice p2 n c2, .slice ps2 ns cs2, .slice pw2 nw cw2⟩)) := Lib.hid (GBox.below (by repeat (first | with_reducible exact K6.out | with_reducible apply GBox.drewN | with_reducible apply GBox.drew | (with_reducible refine GBox.newAt ?_ ?_ <;> first | (simp; done) | rfl) | with_reducible apply GBox.alloc)) b)
    try clear k0a k0b k0c k0d k0e k0z
    have k0z := K0.out.lt
    obtain ⟨k0a, k0b, k0c, k0d, k0e⟩ := K0.out.cell
    try clear k4a k4b k4c k4d k4e k4z
    have k4z := K4.out.lt
    obtain ⟨k4a, k4b, k4c, k4d, k4e⟩ := K4.out.cell
    try clear k6a k6b k6c k6d k6e k6z
    have k6z := K6.out.lt
    obtain ⟨k6a, k6b, k6c, k6d, k6e⟩ := K6.out.cell
    clear b
    have Gg6 := Lib.hid K6.out.lt
    go_upto_region 7 with fail
    refine region_game [(true, 0), (true, 1), (false, 2), (false, 3), (true, 4), (true, 5), (true, 6), (true, 7)] 8 9 10 [(10, 11, 41), (11, 12, 42)] _ _ 40 (by kernel_rfl) rfl rfl (by kernel_rfl) rfl rfl rfl rfl rfl rfl rfl rfl (by decide) (of_decide_eq_true rfl) ?_
    refine chain_load 36 rfl rfl rfl 27 _ rfl rfl #[.int .i64 s, .int .i64 nx, .slice p2 n c2, .slice ps2 ns cs2, .slice pw2 nw cw2] (fun w h => GBox.below K6.out h) Try.underlying27 rfl (by kernel_rfl) ?_
    refine chain_load 37 rfl rfl rfl 42 _ rfl rfl #[.int .i64 cl.a, .int .i64 cl.b, .int .i64 cl.c, .int .i64 cl.d] (fun w h => CBox.below K1.out h) Try.underlying42 rfl (by kernel_rfl) ?_
    refine chain_callE 38 rfl rfl rfl (fun w => by kernel_rfl) (fun wy hy => (to_claim cl wy).mono ?_)
    rintro e wz ⟨rfl, b⟩
    refine ⟨_, rfl, b, fun w' => BI w3b w', ⟨fun _ h => h, fun _ h => h.size, fun _ h => Below.alloc h h.size _⟩, BI.next hy b, ?_⟩
    clear b hy
    refine chain_callE 39 rfl rfl rfl (fun w => by kernel_rfl) (fun wy hy => (HIm.out p2 ps2 pw2 n c2 ns cs2 nw cw2 wy F2.out (RdG.below R2.out hy) HCl.out).mono ?_)
    rintro e wz ⟨vl, vs, vw, rfl, og, b⟩
    obtain ⟨pb, cb, psb, csb, pwb, cwb, rfl, rfl, rfl, -⟩ := og.form
    rw [HMm.out, HMs.out, HMw.out] at og ⊢
    obtain ⟨Cb, hCb⟩ : ∃ Cb, wz.heap.size = Cb := ⟨_, rfl⟩
    have HCb := Lib.hid (show w3b.heap.size ≤ Cb by rw [← hCb]; exact Nat.le_trans (Below.size hy) b.size)
    rw [hCb] at og
    refine ⟨_, rfl, b, fun w' => BI w3b w' ∧ OwnG w' w3b.heap.size Cb (.slice pb a1 cb) (.slice psb a2 csb) (.slice pwb a3 cwb) L SC WR ∧ Cb ≤ w'.heap.size, ⟨fun _ h => h.1, fun _ h => h.1.size, fun _ h => ⟨Below.alloc h.1 h.1.size _, OwnG.alloc h.2.1 _, Nat.le_trans h.2.2 (by simp)⟩⟩, ⟨BI.next hy b, OwnG.base og (Below.size hy), Nat.le_of_eq hCb.symm⟩, ?_⟩
    clear b hy og hCb
    refine chain_pure 35 (v := .tuple #[gval s1 n1 (.slice pb a1 cb) (.slice psb a2 csb) (.slice pwb a3 cwb), .int .i64 r1, .bool r2]) rfl rfl rfl (fun w => by kernel_rfl) ?_
    refine chain_pure 40 (v := gval s1 n1 (.slice pb a1 cb) (.slice psb a2 csb) (.slice pwb a3 cwb)) rfl rfl rfl (fun w => by kernel_rfl) ?_
    refine chain_pure 41 (v := .int .i64 r1) rfl rfl rfl (fun w => by kernel_rfl) ?_
    refine chain_pure 42 (v := .bool r2) rfl rfl rfl (fun w => by kernel_rfl) ?_
    refine ⟨s1, n1, .slice pb a1 cb, .slice psb a2 csb, .slice pwb a3 cwb, by kernel_rfl, rfl, rfl, rfl, by kernel_rfl, ?_⟩
    clear wy wz
    intro wq w4 g7 hI hg hb hG hD
    refine ⟨_, ⟨.int .i64 r1, by kernel_rfl, ⟨.bool r2, by kernel_rfl, rfl⟩⟩, ?_⟩
    simp only [Act.put, List.setIfInBounds_toArray, List.set_cons_zero, List.set_cons_succ]
    have b : Below w3b.heap.size w3b w4 := Below.grown hI.1 hG hI.1.size (fun k hk => by injection hk with hk; omega)
    have HOF7 := Lib.hid (offG hI.2.1 hb rfl)
    have Ob := Lib.hid (OwnG.off hI.2.1 hG HOF7.out)
    have Rb := Lib.hid (OwnG.rd Ob.out)
    have HEb : Hid (Cb ≤ w4.heap.size) := Lib.hid (Nat.le_trans hI.2.2 hG.size)
    have K7 := Lib.hid hD
    have GE7 : Hid (w3b.heap.size ≤ g7) := Lib.hid hg
    clear hI hg hb hG hD wq
    unfold ptr
    have Sw4 : Hid (w3b.heap.size ≤ w4.heap.size) := Lib.hid (by first | exact b.size | (have h := b.size; simp at h; omega))
    have HB := Lib.hid (chain0 (w := w) (by repeat (first | with_reducible exact Below.refl _ _ | with_reducible exact HB.out | with_reducible apply Below.drew | with_reducible apply bdN | with_reducible refine Below.alloc ?_ (by first | exact Nat.le_refl _ | with_reducible exact HB.out.size | omega | (simp; done) | (simp; omega) | (have := HB.out.size; simp at *; omega)) _ | with_reducible refine Below.setCell ?_ (by first | exact Nat.le_refl _ | with_reducible exact HB.out.size | omega | (simp; done) | (simp; omega) | (have := HB.out.size; simp at *; omega)) _)) b)
    have K1 := Lib.hid (CBox.below (by repeat (first | with_reducible exact K1.out | with_reducible apply CBox.drewN | with_reducible apply CBox.drew | with_reducible apply CBox.alloc)) b)
    have HR := Lib.hid (RdG.below (by repeat (first | with_reducible exact HR.out | with_reducible apply RdG.drewN | with_reducible apply RdG.drew | with_reducible apply RdG.alloc)) b)
    have Oa := Lib.hid (OwnG.below (by repeat (first | with_reducible exact Oa.out | with_reducible apply OwnG.drewN | with_reducible apply OwnG.drew | with_reducible apply OwnG.alloc)) b)
    have Ra := Lib.hid (RdG.below (by repeat (first | with_reducible exact Ra.out | with_reducible apply RdG.drewN | with_reducible apply RdG.drew | with_reducible apply RdG.alloc)) b)
    have O2 := Lib.hid (OwnG.below (by repeat (first | with_reducible exact O2.out | with_reducible apply OwnG.drewN | with_reducible apply OwnG.drew | with_reducible apply OwnG.alloc)) b)
    have R2 := Lib.hid (RdG.below (by repeat (first | with_reducible exact R2.out | with_reducible apply RdG.drewN | with_reducible apply RdG.drew | with_reducible apply RdG.alloc)) b)
    have K0 : Hid (GBox _ (w.heap.size) (⟨35, s, nx, .slice p n c, .slice ps ns cs, .slice pw nw cw⟩)) := Lib.hid (GBox.below (by repeat (first | with_reducible exact K0.out | with_reducible apply GBox.drewN | with_reducible apply GBox.drew | (with_reducible refine GBox.newAt ?_ ?_ <;> first | (simp; done) | rfl) | with_reducible apply GBox.alloc)) b)
    have K4 : Hid (GBox _ (g4) (⟨27, s1, n1, .slice pa a1 ca, .slice psa a2 csa, .slice pwa a3 cwa⟩)) := Lib.hid (GBox.below (by repeat (first | with_reducible exact K4.out | with_reducible apply GBox.drewN | with_reducible apply GBox.drew | (with_reducible refine GBox.newAt ?_ ?_ <;> first | (simp; done) | rfl) | with_reducible apply GBox.alloc)) b)
    have K6 : Hid (GBox _ (g6) (⟨27, s, nx, .slice p2 n c2, .slice ps2 ns cs2, .slice pw2 nw cw2⟩)) := Lib.hid (GBox.below (by repeat (first | with_reducible exact K6.out | with_reducible apply GBox.drewN | with_reducible apply GBox.drew | (with_reducible refine GBox.newAt ?_ ?_ <;> first | (simp; done) | rfl) | with_reducible apply GBox.alloc)) b)
    try clear k0a k0b k0c k0d k0e k0z
    have k0z := K0.out.lt
    obtain ⟨k0a, k0b, k0c, k0d, k0e⟩ := K0.out.cell
    try clear k4a k4b k4c k4d k4e k4z
    have k4z := K4.out.lt
    obtain ⟨k4a, k4b, k4c, k4d, k4e⟩ := K4.out.cell
    try clear k6a k6b k6c k6d k6e k6z
    have k6z := K6.out.lt
    obtain ⟨k6a, k6b, k6c, k6d, k6e⟩ := K6.out.cell
    clear b
    obtain ⟨k7a, k7b, k7c, k7d, k7e⟩ := K7.out.cell
    have k7z := K7.out.lt
    have G7 := Lib.hid k7z
    go_wp2_with fail
    refine ((eq_game s1 n1 L SC WR pb psb pwb pa psa pwa a1 cb ca a2 csb csa a3 cwb cwa _ HMm.out HMs.out HMw.out (by omega) (by omega) (by omega) Rb.out Ra.out)).mono ?_
    rintro e w5 ⟨rfl, b⟩
    have Sw5 : Hid (w4.heap.size ≤ w5.heap.size) := Lib.hid (by first | exact b.size | (have h := b.size; simp at h; omega))
    have HB := Lib.hid (chain0 (w := w) (by repeat (first | with_reducible exact Below.refl _ _ | with_reducible exact HB.out | with_reducible apply Below.drew | with_reducible apply bdN | with_reducible refine Below.alloc ?_ (by first | exact Nat.le_refl _ | with_reducible exact HB.out.size | omega | (simp; done) | (simp; omega) | (have := HB.out.size; simp at *; omega)) _ | with_reducible refine Below.setCell ?_ (by first | exact Nat.le_refl _ | with_reducible exact HB.out.size | omega | (simp; done) | (simp; omega) | (have := HB.out.size; simp at *; omega)) _)) b)
    have K1 := Lib.hid (CBox.below (by repeat (first | with_reducible exact K1.out | with_reducible apply CBox.drewN | with_reducible apply CBox.drew | with_reducible apply CBox.alloc)) b)
    have HR := Lib.hid (RdG.below (by repeat (first | with_reducible exact HR.out | with_reducible apply RdG.drewN | with_reducible apply RdG.drew | with_reducible apply RdG.alloc)) b)
    have Oa := Lib.hid (OwnG.below (by repeat (first | with_reducible exact Oa.out | with_reducible apply OwnG.drewN | with_reducible apply OwnG.drew | with_reducible apply OwnG.alloc)) b)
    have Ra := Lib.hid (RdG.below (by repeat (first | with_reducible exact Ra.out | with_reducible apply RdG.drewN | with_reducible apply RdG.drew | with_reducible apply RdG.alloc)) b)
    have O2 := Lib.hid (OwnG.below (by repeat (first | with_reducible exact O2.out | with_reducible apply OwnG.drewN | with_reducible apply OwnG.drew | with_reducible apply OwnG.alloc)) b)
    have R2 := Lib.hid (RdG.below (by repeat (first | with_reducible exact R2.out | with_reducible apply RdG.drewN | with_reducible apply RdG.drew | with_reducible apply RdG.alloc)) b)
    have Ob := Lib.hid (OwnG.below (by repeat (first | with_reducible exact Ob.out | with_reducible apply OwnG.drewN | with_reducible apply OwnG.drew | with_reducible apply OwnG.alloc)) b)
    have Rb := Lib.hid (RdG.below (by repeat (first | with_reducible exact Rb.out | with_reducible apply RdG.drewN | with_reducible apply RdG.drew | with_reducible apply RdG.alloc)) b)
    have K0 : Hid (GBox _ (w.heap.size) (⟨35, s, nx, .slice p n c, .slice ps ns cs, .slice pw nw cw⟩)) := Lib.hid (GBox.below (by repeat (first | with_reducible exact K0.out | with_reducible apply GBox.drewN | with_reducible apply GBox.drew | (with_reducible refine GBox.newAt ?_ ?_ <;> first | (simp; done) | rfl) | with_reducible apply GBox.alloc)) b)
    have K4 : Hid (GBox _ (g4) (⟨27, s1, n1, .slice pa a1 ca, .slice psa a2 csa, .slice pwa a3 cwa⟩)) := Lib.hid (GBox.below (by repeat (first | with_reducible exact K4.out | with_reducible apply GBox.drewN | with_reducible apply GBox.drew | (with_reducible refine GBox.newAt ?_ ?_ <;> first | (simp; done) | rfl) | with_reducible apply GBox.alloc)) b)
    have K6 : Hid (GBox _ (g6) (⟨27, s, nx, .slice p2 n c2, .slice ps2 ns cs2, .slice pw2 nw cw2⟩)) := Lib.hid (GBox.below (by repeat (first | with_reducible exact K6.out | with_reducible apply GBox.drewN | with_reducible apply GBox.drew | (with_reducible refine GBox.newAt ?_ ?_ <;> first | (simp; done) | rfl) | with_reducible apply GBox.alloc)) b)
    have K7 : Hid (GBox _ (g7) (⟨27, s1, n1, .slice pb a1 cb, .slice psb a2 csb, .slice pwb a3 cwb⟩)) := Lib.hid (GBox.below (by repeat (first | with_reducible exact K7.out | with_reducible apply GBox.drewN | with_reducible apply GBox.drew | (with_reducible refine GBox.newAt ?_ ?_ <;> first | (simp; done) | rfl) | with_reducible apply GBox.alloc)) b)
    try clear k0a k0b k0c k0d k0e k0z
    have k0z := K0.out.lt
    obtain ⟨k0a, k0b, k0c, k0d, k0e⟩ := K0.out.cell
    try clear k4a k4b k4c k4d k4e k4z
    have k4z := K4.out.lt
    obtain ⟨k4a, k4b, k4c, k4d, k4e⟩ := K4.out.cell
    try clear k6a k6b k6c k6d k6e k6z
    have k6z := K6.out.lt
    obtain ⟨k6a, k6b, k6c, k6d, k6e⟩ := K6.out.cell
    try clear k7a k7b k7c k7d k7e k7z
    have k7z := K7.out.lt
    obtain ⟨k7a, k7b, k7c, k7d, k7e⟩ := K7.out.cell
    clear b
    go_upto_region 10 with fail
    refine region_BI [(true, 0), (true, 1), (false, 2), (false, 3), (true, 4)] (by kernel_rfl) rfl (by kernel_rfl) ?_
    refine chain_load 57 rfl rfl rfl 27 _ rfl rfl #[.int .i64 s, .int .i64 nx, .slice p2 n c2, .slice ps2 ns cs2, .slice pw2 nw cw2] (fun w h => GBox.below K6.out h) Try.underlying27 rfl (by kernel_rfl) ?_
    refine chain_load 58 rfl rfl rfl 35 _ rfl rfl #[.int .i64 s, .int .i64 nx, .slice p n c, .slice ps ns cs, .slice pw nw cw] (fun w h => GBox.below K0.out h) Try.underlying35 rfl (by kernel_rfl) ?_
    refine chain_callE 59 rfl rfl rfl (fun w => by kernel_rfl) (fun wy hy => (to_game s nx l sc wt p ps pw n c ns cs nw cw wy HN.out HS.out HW.out (by omega) (by omega) (by omega) HWf.out (RdG.below HR.out hy)).mono ?_)
    rintro e wz ⟨p3, c3, ps3, cs3, pw3, cw3, rfl, o3, r3, f3, b⟩
    refine ⟨_, rfl, b, fun w' => BI w5 w' ∧ RdG w' p3 ps3 pw3 l sc wt, ⟨fun _ h => h.1, fun _ h => h.1.size, fun _ h => ⟨Below.alloc h.1 h.1.size _, RdG.alloc h.2 _⟩⟩, ⟨BI.next hy b, r3⟩, ?_⟩
    clear b r3 o3 f3 hy
    refine chain_callE 60 rfl rfl rfl (fun w => by kernel_rfl) (fun wy hy => (eq_game s nx l sc wt p2 ps2 pw2 p3 ps3 pw3 n c2 c3 ns cs2 cs3 nw cw2 cw3 wy HN.out HS.out HW.out (by omega) (by omega) (by omega) (RdG.below R2.out hy.1) hy.2).mono ?_)
    rintro e wz ⟨rfl, b⟩
    refine ⟨_, rfl, b, fun w' => BI w5 w', ⟨fun _ h => h, fun _ h => h.size, fun _ h => Below.alloc h h.size _⟩, BI.next hy.1 b, ?_⟩
    clear b hy
    refine chain_pure 61 (v := .bool false) rfl rfl rfl (fun w => by kernel_rfl) ?_
    clear wy wz
    intro w7 hI
    have b : Below w5.heap.size w5 w7 := hI
    clear hI
    have Sw7 : Hid (w5.heap.size ≤ w7.heap.size) := Lib.hid (by first | exact b.size | (have h := b.size; simp at h; omega))
    have HB := Lib.hid (chain0 (w := w) (by repeat (first | with_reducible exact Below.refl _ _ | with_reducible exact HB.out | with_reducible apply Below.drew | with_reducible apply bdN | with_reducible refine Below.alloc ?_ (by first | exact Nat.le_refl _ | with_reducible exact HB.out.size | omega | (simp; done) | (simp; omega) | (have := HB.out.size; simp at *; omega)) _ | with_reducible refine Below.setCell ?_ (by first | exact Nat.le_refl _ | with_reducible exact HB.out.size | omega | (simp; done) | (simp; omega) | (have := HB.out.size; simp at *; omega)) _)) b)
    have K1 := Lib.hid (CBox.below (by repeat (first | with_reducible exact K1.out | with_reducible apply CBox.drewN | with_reducible apply CBox.drew | with_reducible apply CBox.alloc)) b)
    have HR := Lib.hid (RdG.below (by repeat (first | with_reducible exact HR.out | with_reducible apply RdG.drewN | with_reducible apply RdG.drew | with_reducible apply RdG.alloc)) b)
    have Oa := Lib.hid (OwnG.below (by repeat (first | with_reducible exact Oa.out | with_reducible apply OwnG.drewN | with_reducible apply OwnG.drew | with_reducible apply OwnG.alloc)) b)
    have Ra := Lib.hid (RdG.below (by repeat (first | with_reducible exact Ra.out | with_reducible apply RdG.drewN | with_reducible apply RdG.drew | with_reducible apply RdG.alloc)) b)
    have O2 := Lib.hid (OwnG.below (by repeat (first | with_reducible exact O2.out | with_reducible apply OwnG.drewN | with_reducible apply OwnG.drew | with_reducible apply OwnG.alloc)) b)
    have R2 := Lib.hid (RdG.below (by repeat (first | with_reducible exact R2.out | with_reducible apply RdG.drewN | with_reducible apply RdG.drew | with_reducible apply RdG.alloc)) b)
    have Ob := Lib.hid (OwnG.below (by repeat (first | with_reducible exact Ob.out | with_reducible apply OwnG.drewN | with_reducible apply OwnG.drew | with_reducible apply OwnG.alloc)) b)
    have Rb := Lib.hid (RdG.below (by repeat (first | with_reducible exact Rb.out | with_reducible apply RdG.drewN | with_reducible apply RdG.drew | with_reducible apply RdG.alloc)) b)
    have K0 : Hid (GBox _ (w.heap.size) (⟨35, s, nx, .slice p n c, .slice ps ns cs, .slice pw nw cw⟩)) := Lib.hid (GBox.below (by repeat (first | with_reducible exact K0.out | with_reducible apply GBox.drewN | with_reducible apply GBox.drew | (with_reducible refine GBox.newAt ?_ ?_ <;> first | (simp; done) | rfl) | with_reducible apply GBox.alloc)) b)
    have K4 : Hid (GBox _ (g4) (⟨27, s1, n1, .slice pa a1 ca, .slice psa a2 csa, .slice pwa a3 cwa⟩)) := Lib.hid (GBox.below (by repeat (first | with_reducible exact K4.out | with_reducible apply GBox.drewN | with_reducible apply GBox.drew | (with_reducible refine GBox.newAt ?_ ?_ <;> first | (simp; done) | rfl) | with_reducible apply GBox.alloc)) b)
    have K6 : Hid (GBox _ (g6) (⟨27, s, nx, .slice p2 n c2, .slice ps2 ns cs2, .slice pw2 nw cw2⟩)) := Lib.hid (GBox.below (by repeat (first | with_reducible exact K6.out | with_reducible apply GBox.drewN | with_reducible apply GBox.drew | (with_reducible refine GBox.newAt ?_ ?_ <;> first | (simp; done) | rfl) | with_reducible apply GBox.alloc)) b)
    have K7 : Hid (GBox _ (g7) (⟨27, s1, n1, .slice pb a1 cb, .slice psb a2 csb, .slice pwb a3 cwb⟩)) := Lib.hid (GBox.below (by repeat (first | with_reducible exact K7.out | with_reducible apply GBox.drewN | with_reducible apply GBox.drew | (with_reducible refine GBox.newAt ?_ ?_ <;> first | (simp; done) | rfl) | with_reducible apply GBox.alloc)) b)
    try clear k0a k0b k0c k0d k0e k0z
    have k0z := K0.out.lt
    obtain ⟨k0a, k0b, k0c, k0d, k0e⟩ := K0.out.cell
    try clear k4a k4b k4c k4d k4e k4z
    have k4z := K4.out.lt
    obtain ⟨k4a, k4b, k4c, k4d, k4e⟩ := K4.out.cell
    try clear k6a k6b k6c k6d k6e k6z
    have k6z := K6.out.lt
    obtain ⟨k6a, k6b, k6c, k6d, k6e⟩ := K6.out.cell
    try clear k7a k7b k7c k7d k7e k7z
    have k7z := K7.out.lt
    obtain ⟨k7a, k7b, k7c, k7d, k7e⟩ := K7.out.cell
    clear b
    go_wp2_with fail
    refine ((mark_game s nx l sc wt (.slice p2 n c2) (.slice ps2 ns cs2) (.slice pw2 nw cw2) _ _ 1 n ns nw _ HN.out HS.out HW.out (by omega) (by have h0 := Sw0.out; have h1 := Sw0.out; have h2 := GK1.out; have h3 := Sw2.out; have h4 := HCa.out; have h5 := HEa.out; have h6 := GE4.out; have h7 := G4.out; have h8 := Yw3K0.out; have h9 := Yw3K4.out; have h10 := Sw3.out; have h11 := Zw3.out; have h12 := HGg6.out; have h13 := Sw3b.out; have h14 := Gg6.out; have h15 := Sw4.out; have h16 := HCb.out; have h17 := HEb.out; have h18 := GE7.out; have h19 := G7.out; have h20 := Sw5.out; have h21 := Sw7.out; first | omega | (show _ ≤ w7.heap.size; omega) | (simp at *; omega)) (by have h0 := Sw0.out; have h1 := Sw0.out; have h2 := GK1.out; have h3 := Sw2.out; have h4 := HCa.out; have h5 := HEa.out; have h6 := GE4.out; have h7 := G4.out; have h8 := Yw3K0.out; have h9 := Yw3K4.out; have h10 := Sw3.out; have h11 := Zw3.out; have h12 := HGg6.out; have h13 := Sw3b.out; have h14 := Gg6.out; have h15 := Sw4.out; have h16 := HCb.out; have h17 := HEb.out; have h18 := GE7.out; have h19 := G7.out; have h20 := Sw5.out; have h21 := Sw7.out; first | omega | (show _ ≤ w7.heap.size; omega) | (simp at *; omega)) O2.out)).mono ?_
    rintro e w8 ⟨rfl, oM, gM⟩
    have Sw8 : Hid (w7.heap.size ≤ w8.heap.size) := Lib.hid gM.size
    have HB := Lib.hid (game.Below.out HB.out gM HB.out.size (by have h0 := Sw0.out; have h1 := Sw0.out; have h2 := GK1.out; have h3 := Sw2.out; have h4 := HCa.out; have h5 := HEa.out; have h6 := GE4.out; have h7 := G4.out; have h8 := Yw3K0.out; have h9 := Yw3K4.out; have h10 := Sw3.out; have h11 := Zw3.out; have h12 := HGg6.out; have h13 := Sw3b.out; have h14 := Gg6.out; have h15 := Sw4.out; have h16 := HCb.out; have h17 := HEb.out; have h18 := GE7.out; have h19 := G7.out; have h20 := Sw5.out; have h21 := Sw7.out; first | omega | (simp at *; omega)))
    have K1 := Lib.hid (CBox.out K1.out gM (by have h0 := Sw0.out; have h1 := Sw0.out; have h2 := GK1.out; have h3 := Sw2.out; have h4 := HCa.out; have h5 := HEa.out; have h6 := GE4.out; have h7 := G4.out; have h8 := Yw3K0.out; have h9 := Yw3K4.out; have h10 := Sw3.out; have h11 := Zw3.out; have h12 := HGg6.out; have h13 := Sw3b.out; have h14 := Gg6.out; have h15 := Sw4.out; have h16 := HCb.out; have h17 := HEb.out; have h18 := GE7.out; have h19 := G7.out; have h20 := Sw5.out; have h21 := Sw7.out; first | omega | (simp at *; omega)))
    have HR := Lib.hid (RdG.below HR0.out HB.out)
    have Oa := Lib.hid (OwnG.out Oa.out gM (by have h0 := Sw0.out; have h1 := Sw0.out; have h2 := GK1.out; have h3 := Sw2.out; have h4 := HCa.out; have h5 := HEa.out; have h6 := GE4.out; have h7 := G4.out; have h8 := Yw3K0.out; have h9 := Yw3K4.out; have h10 := Sw3.out; have h11 := Zw3.out; have h12 := HGg6.out; have h13 := Sw3b.out; have h14 := Gg6.out; have h15 := Sw4.out; have h16 := HCb.out; have h17 := HEb.out; have h18 := GE7.out; have h19 := G7.out; have h20 := Sw5.out; have h21 := Sw7.out; first | omega | (simp at *; omega)))
    have Ra := Lib.hid (OwnG.rd Oa.out)
    have Ob := Lib.hid (OwnG.out Ob.out gM (by have h0 := Sw0.out; have h1 := Sw0.out; have h2 := GK1.out; have h3 := Sw2.out; have h4 := HCa.out; have h5 := HEa.out; have h6 := GE4.out; have h7 := G4.out; have h8 := Yw3K0.out; have h9 := Yw3K4.out; have h10 := Sw3.out; have h11 := Zw3.out; have h12 := HGg6.out; have h13 := Sw3b.out; have h14 := Gg6.out; have h15 := Sw4.out; have h16 := HCb.out; have h17 := HEb.out; have h18 := GE7.out; have h19 := G7.out; have h20 := Sw5.out; have h21 := Sw7.out; first | omega | (simp at *; omega)))
    have Rb := Lib.hid (OwnG.rd Ob.out)
    have O2 := Lib.hid oM
    have K0 : Hid (GBox _ (w.heap.size) (⟨35, s, nx, .slice p n c, .slice ps ns cs, .slice pw nw cw⟩)) := Lib.hid (GBox.out K0.out gM (by have h0 := Sw0.out; have h1 := Sw0.out; have h2 := GK1.out; have h3 := Sw2.out; have h4 := HCa.out; have h5 := HEa.out; have h6 := GE4.out; have h7 := G4.out; have h8 := Yw3K0.out; have h9 := Yw3K4.out; have h10 := Sw3.out; have h11 := Zw3.out; have h12 := HGg6.out; have h13 := Sw3b.out; have h14 := Gg6.out; have h15 := Sw4.out; have h16 := HCb.out; have h17 := HEb.out; have h18 := GE7.out; have h19 := G7.out; have h20 := Sw5.out; have h21 := Sw7.out; first | omega | (simp at *; omega)))
    try clear k0a k0b k0c k0d k0e k0z
    have k0z := K0.out.lt
    obtain ⟨k0a, k0b, k0c, k0d, k0e⟩ := K0.out.cell
    have K4 : Hid (GBox _ (g4) (⟨27, s1, n1, .slice pa a1 ca, .slice psa a2 csa, .slice pwa a3 cwa⟩)) := Lib.hid (GBox.out K4.out gM (by have h0 := Sw0.out; have h1 := Sw0.out; have h2 := GK1.out; have h3 := Sw2.out; have h4 := HCa.out; have h5 := HEa.out; have h6 := GE4.out; have h7 := G4.out; have h8 := Yw3K0.out; have h9 := Yw3K4.out; have h10 := Sw3.out; have h11 := Zw3.out; have h12 := HGg6.out; have h13 := Sw3b.out; have h14 := Gg6.out; have h15 := Sw4.out; have h16 := HCb.out; have h17 := HEb.out; have h18 := GE7.out; have h19 := G7.out; have h20 := Sw5.out; have h21 := Sw7.out; first | omega | (simp at *; omega)))
    try clear k4a k4b k4c k4d k4e k4z
    have k4z := K4.out.lt
    obtain ⟨k4a, k4b, k4c, k4d, k4e⟩ := K4.out.cell
    have K6 : Hid (GBox _ (g6) (⟨27, s, nx, .slice p2 n c2, .slice ps2 ns cs2, .slice pw2 nw cw2⟩)) := Lib.hid (GBox.out K6.out gM (by have h0 := Sw0.out; have h1 := Sw0.out; have h2 := GK1.out; have h3 := Sw2.out; have h4 := HCa.out; have h5 := HEa.out; have h6 := GE4.out; have h7 := G4.out; have h8 := Yw3K0.out; have h9 := Yw3K4.out; have h10 := Sw3.out; have h11 := Zw3.out; have h12 := HGg6.out; have h13 := Sw3b.out; have h14 := Gg6.out; have h15 := Sw4.out; have h16 := HCb.out; have h17 := HEb.out; have h18 := GE7.out; have h19 := G7.out; have h20 := Sw5.out; have h21 := Sw7.out; first | omega | (simp at *; omega)))
    try clear k6a k6b k6c k6d k6e k6z
    have k6z := K6.out.lt
    obtain ⟨k6a, k6b, k6c, k6d, k6e⟩ := K6.out.cell
    have K7 : Hid (GBox _ (g7) (⟨27, s1, n1, .slice pb a1 cb, .slice psb a2 csb, .slice pwb a3 cwb⟩)) := Lib.hid (GBox.out K7.out gM (by have h0 := Sw0.out; have h1 := Sw0.out; have h2 := GK1.out; have h3 := Sw2.out; have h4 := HCa.out; have h5 := HEa.out; have h6 := GE4.out; have h7 := G4.out; have h8 := Yw3K0.out; have h9 := Yw3K4.out; have h10 := Sw3.out; have h11 := Zw3.out; have h12 := HGg6.out; have h13 := Sw3b.out; have h14 := Gg6.out; have h15 := Sw4.out; have h16 := HCb.out; have h17 := HEb.out; have h18 := GE7.out; have h19 := G7.out; have h20 := Sw5.out; have h21 := Sw7.out; first | omega | (simp at *; omega)))
    try clear k7a k7b k7c k7d k7e k7z
    have k7z := K7.out.lt
    obtain ⟨k7a, k7b, k7c, k7d, k7e⟩ := K7.out.cell
    clear oM gM
    go_wp2_with fail
    refine ((eq_game s1 n1 L SC WR pb psb pwb pa psa pwa a1 cb ca a2 csb csa a3 cwb cwa _ HMm.out HMs.out HMw.out (by omega) (by omega) (by omega) Rb.out Ra.out)).mono ?_
    rintro e w9 ⟨rfl, b⟩
    have Sw9 : Hid (w8.heap.size ≤ w9.heap.size) := Lib.hid (by first | exact b.size | (have h := b.size; simp at h; omega))
    have HB := Lib.hid (chain0 (w := w) (by repeat (first | with_reducible exact Below.refl _ _ | with_reducible exact HB.out | with_reducible apply Below.drew | with_reducible apply bdN | with_reducible refine Below.alloc ?_ (by first | exact Nat.le_refl _ | with_reducible exact HB.out.size | omega | (simp; done) | (simp; omega) | (have := HB.out.size; simp at *; omega)) _ | with_reducible refine Below.setCell ?_ (by first | exact Nat.le_refl _ | with_reducible exact HB.out.size | omega | (simp; done) | (simp; omega) | (have := HB.out.size; simp at *; omega)) _)) b)
    have K1 := Lib.hid (CBox.below (by repeat (first | with_reducible exact K1.out | with_reducible apply CBox.drewN | with_reducible apply CBox.drew | with_reducible apply CBox.alloc)) b)
    have HR := Lib.hid (RdG.below (by repeat (first | with_reducible exact HR.out | with_reducible apply RdG.drewN | with_reducible apply RdG.drew | with_reducible apply RdG.alloc)) b)
    have Oa := Lib.hid (OwnG.below (by repeat (first | with_reducible exact Oa.out | with_reducible apply OwnG.drewN | with_reducible apply OwnG.drew | with_reducible apply OwnG.alloc)) b)
    have Ra := Lib.hid (RdG.below (by repeat (first | with_reducible exact Ra.out | with_reducible apply RdG.drewN | with_reducible apply RdG.drew | with_reducible apply RdG.alloc)) b)
    have O2 := Lib.hid (OwnG.below (by repeat (first | with_reducible exact O2.out | with_reducible apply OwnG.drewN | with_reducible apply OwnG.drew | with_reducible apply OwnG.alloc)) b)
    have Ob := Lib.hid (OwnG.below (by repeat (first | with_reducible exact Ob.out | with_reducible apply OwnG.drewN | with_reducible apply OwnG.drew | with_reducible apply OwnG.alloc)) b)
    have Rb := Lib.hid (RdG.below (by repeat (first | with_reducible exact Rb.out | with_reducible apply RdG.drewN | with_reducible apply RdG.drew | with_reducible apply RdG.alloc)) b)
    have K0 : Hid (GBox _ (w.heap.size) (⟨35, s, nx, .slice p n c, .slice ps ns cs, .slice pw nw cw⟩)) := Lib.hid (GBox.below (by repeat (first | with_reducible exact K0.out | with_reducible apply GBox.drewN | with_reducible apply GBox.drew | (with_reducible refine GBox.newAt ?_ ?_ <;> first | (simp; done) | rfl) | with_reducible apply GBox.alloc)) b)
    have K4 : Hid (GBox _ (g4) (⟨27, s1, n1, .slice pa a1 ca, .slice psa a2 csa, .slice pwa a3 cwa⟩)) := Lib.hid (GBox.below (by repeat (first | with_reducible exact K4.out | with_reducible apply GBox.drewN | with_reducible apply GBox.drew | (with_reducible refine GBox.newAt ?_ ?_ <;> first | (simp; done) | rfl) | with_reducible apply GBox.alloc)) b)
    have K6 : Hid (GBox _ (g6) (⟨27, s, nx, .slice p2 n c2, .slice ps2 ns cs2, .slice pw2 nw cw2⟩)) := Lib.hid (GBox.below (by repeat (first | with_reducible exact K6.out | with_reducible apply GBox.drewN | with_reducible apply GBox.drew | (with_reducible refine GBox.newAt ?_ ?_ <;> first | (simp; done) | rfl) | with_reducible apply GBox.alloc)) b)
    have K7 : Hid (GBox _ (g7) (⟨27, s1, n1, .slice pb a1 cb, .slice psb a2 csb, .slice pwb a3 cwb⟩)) := Lib.hid (GBox.below (by repeat (first | with_reducible exact K7.out | with_reducible apply GBox.drewN | with_reducible apply GBox.drew | (with_reducible refine GBox.newAt ?_ ?_ <;> first | (simp; done) | rfl) | with_reducible apply GBox.alloc)) b)
    try clear k0a k0b k0c k0d k0e k0z
    have k0z := K0.out.lt
    obtain ⟨k0a, k0b, k0c, k0d, k0e⟩ := K0.out.cell
    try clear k4a k4b k4c k4d k4e k4z
    have k4z := K4.out.lt
    obtain ⟨k4a, k4b, k4c, k4d, k4e⟩ := K4.out.cell
    try clear k6a k6b k6c k6d k6e k6z
    have k6z := K6.out.lt
    obtain ⟨k6a, k6b, k6c, k6d, k6e⟩ := K6.out.cell
    try clear k7a k7b k7c k7d k7e k7z
    have k7z := K7.out.lt
    obtain ⟨k7a, k7b, k7c, k7d, k7e⟩ := K7.out.cell
    clear b
    go_wp2_with fail
    refine ((mark_gameX s1 n1 L SC WR (.slice pb a1 cb) (.slice psb a2 csb) (.slice pwb a3 cwb) _ _ 1 a1 a2 a3 _ HMm.out HMs.out HMw.out (by omega) (by have h0 := Sw0.out; have h1 := Sw0.out; have h2 := GK1.out; have h3 := Sw2.out; have h4 := HCa.out; have h5 := HEa.out; have h6 := GE4.out; have h7 := G4.out; have h8 := Yw3K0.out; have h9 := Yw3K4.out; have h10 := Sw3.out; have h11 := Zw3.out; have h12 := HGg6.out; have h13 := Sw3b.out; have h14 := Gg6.out; have h15 := Sw4.out; have h16 := HCb.out; have h17 := HEb.out; have h18 := GE7.out; have h19 := G7.out; have h20 := Sw5.out; have h21 := Sw7.out; have h22 := Sw8.out; have h23 := Sw9.out; first | omega | (show _ ≤ w9.heap.size; omega) | (simp at *; omega)) (by have h0 := Sw0.out; have h1 := Sw0.out; have h2 := GK1.out; have h3 := Sw2.out; have h4 := HCa.out; have h5 := HEa.out; have h6 := GE4.out; have h7 := G4.out; have h8 := Yw3K0.out; have h9 := Yw3K4.out; have h10 := Sw3.out; have h11 := Zw3.out; have h12 := HGg6.out; have h13 := Sw3b.out; have h14 := Gg6.out; have h15 := Sw4.out; have h16 := HCb.out; have h17 := HEb.out; have h18 := GE7.out; have h19 := G7.out; have h20 := Sw5.out; have h21 := Sw7.out; have h22 := Sw8.out; have h23 := Sw9.out; first | omega | (show _ ≤ w9.heap.size; omega) | (simp at *; omega)) Ob.out)).mono ?_
    rintro e w10 ⟨rfl, oM, gM, xM⟩
    have Sw10 : Hid (w9.heap.size ≤ w10.heap.size) := Lib.hid gM.size
    have HB := Lib.hid (game.Below.out HB.out gM HB.out.size (by have h0 := Sw0.out; have h1 := Sw0.out; have h2 := GK1.out; have h3 := Sw2.out; have h4 := HCa.out; have h5 := HEa.out; have h6 := GE4.out; have h7 := G4.out; have h8 := Yw3K0.out; have h9 := Yw3K4.out; have h10 := Sw3.out; have h11 := Zw3.out; have h12 := HGg6.out; have h13 := Sw3b.out; have h14 := Gg6.out; have h15 := Sw4.out; have h16 := HCb.out; have h17 := HEb.out; have h18 := GE7.out; have h19 := G7.out; have h20 := Sw5.out; have h21 := Sw7.out; have h22 := Sw8.out; have h23 := Sw9.out; first | omega | (simp at *; omega)))
    have K1 := Lib.hid (CBox.out K1.out gM (by have h0 := Sw0.out; have h1 := Sw0.out; have h2 := GK1.out; have h3 := Sw2.out; have h4 := HCa.out; have h5 := HEa.out; have h6 := GE4.out; have h7 := G4.out; have h8 := Yw3K0.out; have h9 := Yw3K4.out; have h10 := Sw3.out; have h11 := Zw3.out; have h12 := HGg6.out; have h13 := Sw3b.out; have h14 := Gg6.out; have h15 := Sw4.out; have h16 := HCb.out; have h17 := HEb.out; have h18 := GE7.out; have h19 := G7.out; have h20 := Sw5.out; have h21 := Sw7.out; have h22 := Sw8.out; have h23 := Sw9.out; first | omega | (simp at *; omega)))
    have HR := Lib.hid (RdG.below HR0.out HB.out)
    have Oa := Lib.hid (OwnG.out Oa.out gM (by have h0 := Sw0.out; have h1 := Sw0.out; have h2 := GK1.out; have h3 := Sw2.out; have h4 := HCa.out; have h5 := HEa.out; have h6 := GE4.out; have h7 := G4.out; have h8 := Yw3K0.out; have h9 := Yw3K4.out; have h10 := Sw3.out; have h11 := Zw3.out; have h12 := HGg6.out; have h13 := Sw3b.out; have h14 := Gg6.out; have h15 := Sw4.out; have h16 := HCb.out; have h17 := HEb.out; have h18 := GE7.out; have h19 := G7.out; have h20 := Sw5.out; have h21 := Sw7.out; have h22 := Sw8.out; have h23 := Sw9.out; first | omega | (simp at *; omega)))
    have Ra := Lib.hid (OwnG.rd Oa.out)
    have Ob := Lib.hid oM
    have K0 : Hid (GBox _ (w.heap.size) (⟨35, s, nx, .slice p n c, .slice ps ns cs, .slice pw nw cw⟩)) := Lib.hid (GBox.out K0.out gM (by have h0 := Sw0.out; have h1 := Sw0.out; have h2 := GK1.out; have h3 := Sw2.out; have h4 := HCa.out; have h5 := HEa.out; have h6 := GE4.out; have h7 := G4.out; have h8 := Yw3K0.out; have h9 := Yw3K4.out; have h10 := Sw3.out; have h11 := Zw3.out; have h12 := HGg6.out; have h13 := Sw3b.out; have h14 := Gg6.out; have h15 := Sw4.out; have h16 := HCb.out; have h17 := HEb.out; have h18 := GE7.out; have h19 := G7.out; have h20 := Sw5.out; have h21 := Sw7.out; have h22 := Sw8.out; have h23 := Sw9.out; first | omega | (simp at *; omega)))
    try clear k0a k0b k0c k0d k0e k0z
    have k0z := K0.out.lt
    obtain ⟨k0a, k0b, k0c, k0d, k0e⟩ := K0.out.cell
    have K4 : Hid (GBox _ (g4) (⟨27, s1, n1, .slice pa a1 ca, .slice psa a2 csa, .slice pwa a3 cwa⟩)) := Lib.hid (GBox.out K4.out gM (by have h0 := Sw0.out; have h1 := Sw0.out; have h2 := GK1.out; have h3 := Sw2.out; have h4 := HCa.out; have h5 := HEa.out; have h6 := GE4.out; have h7 := G4.out; have h8 := Yw3K0.out; have h9 := Yw3K4.out; have h10 := Sw3.out; have h11 := Zw3.out; have h12 := HGg6.out; have h13 := Sw3b.out; have h14 := Gg6.out; have h15 := Sw4.out; have h16 := HCb.out; have h17 := HEb.out; have h18 := GE7.out; have h19 := G7.out; have h20 := Sw5.out; have h21 := Sw7.out; have h22 := Sw8.out; have h23 := Sw9.out; first | omega | (simp at *; omega)))
    try clear k4a k4b k4c k4d k4e k4z
    have k4z := K4.out.lt
    obtain ⟨k4a, k4b, k4c, k4d, k4e⟩ := K4.out.cell
    have K7 : Hid (GBox _ (g7) (⟨27, s1, n1, .slice pb a1 cb, .slice psb a2 csb, .slice pwb a3 cwb⟩)) := Lib.hid (GBox.outV K7.out xM HOF7.out)
    try clear k7a k7b k7c k7d k7e k7z
    have k7z := K7.out.lt
    obtain ⟨k7a, k7b, k7c, k7d, k7e⟩ := K7.out.cell
    clear oM gM xM
    go_wp2_with fail
    refine ((held_game s1 n1 (.slice pb a1 cb) (.slice psb a2 csb) (.slice pwb a3 cwb) _ _ 1 a1 a2 a3 _ (by omega) Ob.out)).mono ?_
    rintro e w11 ⟨rfl, b⟩
    have Sw11 : Hid (w10.heap.size ≤ w11.heap.size) := Lib.hid (by first | exact b.size | (have h := b.size; simp at h; omega))
    have HB := Lib.hid (chain0 (w := w) (by repeat (first | with_reducible exact Below.refl _ _ | with_reducible exact HB.out | with_reducible apply Below.drew | with_reducible apply bdN | with_reducible refine Below.alloc ?_ (by first | exact Nat.le_refl _ | with_reducible exact HB.out.size | omega | (simp; done) | (simp; omega) | (have := HB.out.size; simp at *; omega)) _ | with_reducible refine Below.setCell ?_ (by first | exact Nat.le_refl _ | with_reducible exact HB.out.size | omega | (simp; done) | (simp; omega) | (have := HB.out.size; simp at *; omega)) _)) b)
    have K1 := Lib.hid (CBox.below (by repeat (first | with_reducible exact K1.out | with_reducible apply CBox.drewN | with_reducible apply CBox.drew | with_reducible apply CBox.alloc)) b)
    have HR := Lib.hid (RdG.below (by repeat (first | with_reducible exact HR.out | with_reducible apply RdG.drewN | with_reducible apply RdG.drew | with_reducible apply RdG.alloc)) b)
    have Oa := Lib.hid (OwnG.below (by repeat (first | with_reducible exact Oa.out | with_reducible apply OwnG.drewN | with_reducible apply OwnG.drew | with_reducible apply OwnG.alloc)) b)
    have Ra := Lib.hid (RdG.below (by repeat (first | with_reducible exact Ra.out | with_reducible apply RdG.drewN | with_reducible apply RdG.drew | with_reducible apply RdG.alloc)) b)
    have Ob := Lib.hid (OwnG.below (by repeat (first | with_reducible exact Ob.out | with_reducible apply OwnG.drewN | with_reducible apply OwnG.drew | with_reducible apply OwnG.alloc)) b)
    have K0 : Hid (GBox _ (w.heap.size) (⟨35, s, nx, .slice p n c, .slice ps ns cs, .slice pw nw cw⟩)) := Lib.hid (GBox.below (by repeat (first | with_reducible exact K0.out | with_reducible apply GBox.drewN | with_reducible apply GBox.drew | (with_reducible refine GBox.newAt ?_ ?_ <;> first | (simp; done) | rfl) | with_reducible apply GBox.alloc)) b)
    have K4 : Hid (GBox _ (g4) (⟨27, s1, n1, .slice pa a1 ca, .slice psa a2 csa, .slice pwa a3 cwa⟩)) := Lib.hid (GBox.below (by repeat (first | with_reducible exact K4.out | with_reducible apply GBox.drewN | with_reducible apply GBox.drew | (with_reducible refine GBox.newAt ?_ ?_ <;> first | (simp; done) | rfl) | with_reducible apply GBox.alloc)) b)
    have K7 : Hid (GBox _ (g7) (⟨27, s1, n1, .slice pb a1 cb, .slice psb a2 csb, .slice pwb a3 cwb⟩)) := Lib.hid (GBox.below (by repeat (first | with_reducible exact K7.out | with_reducible apply GBox.drewN | with_reducible apply GBox.drew | (with_reducible refine GBox.newAt ?_ ?_ <;> first | (simp; done) | rfl) | with_reducible apply GBox.alloc)) b)
    try clear k0a k0b k0c k0d k0e k0z
    have k0z := K0.out.lt
    obtain ⟨k0a, k0b, k0c, k0d, k0e⟩ := K0.out.cell
    try clear k4a k4b k4c k4d k4e k4z
    have k4z := K4.out.lt
    obtain ⟨k4a, k4b, k4c, k4d, k4e⟩ := K4.out.cell
    try clear k7a k7b k7c k7d k7e k7z
    have k7z := K7.out.lt
    obtain ⟨k7a, k7b, k7c, k7d, k7e⟩ := K7.out.cell
    clear b
    go_upto_region 24 with fail
    refine region_game [(true, 0), (true, 2), (false, 1), (false, 3), (false, 4), (true, 5), (true, 6), (true, 7), (true, 8)] 9 10 16 [(11, 17, 101), (12, 18, 102)] _ _ 100 (by kernel_rfl) rfl rfl (by kernel_rfl) rfl rfl rfl rfl rfl rfl rfl rfl (by decide) (of_decide_eq_true rfl) ?_
    refine chain_load 95 rfl rfl rfl 35 _ rfl rfl #[.int .i64 s, .int .i64 nx, .slice p n c, .slice ps ns cs, .slice pw nw cw] (fun w h => GBox.below K0.out h) Try.underlying35 rfl (by kernel_rfl) ?_
    refine chain_load 97 rfl rfl rfl 42 _ rfl rfl #[.int .i64 cl.a, .int .i64 cl.b, .int .i64 cl.c, .int .i64 cl.d] (fun w h => CBox.below K1.out h) Try.underlying42 rfl (by kernel_rfl) ?_
    refine chain_callE 96 rfl rfl rfl (fun w => by kernel_rfl) (fun wy hy => (to_game s nx l sc wt p ps pw n c ns cs nw cw wy HN.out HS.out HW.out (by omega) (by omega) (by omega) HWf.out (RdG.below HR.out hy)).mono ?_)
    rintro e wz ⟨p9, c9, ps9, cs9, pw9, cw9, rfl, o9, r9, f9, b⟩
    refine ⟨_, rfl, b, fun w' => BI w11 w' ∧ RdG w' p9 ps9 pw9 l sc wt, ⟨fun _ h => h.1, fun _ h => h.1.size, fun _ h => ⟨Below.alloc h.1 h.1.size _, RdG.alloc h.2 _⟩⟩, ⟨BI.next hy b, r9⟩, ?_⟩
    have F9 := Lib.hid f9
    clear b r9 o9 f9 hy
    refine chain_callE 98 rfl rfl rfl (fun w => by kernel_rfl) (fun wy hy => (to_claim cl wy).mono ?_)
    rintro e wz ⟨rfl, b⟩
    refine ⟨_, rfl, b, fun w' => BI w11 w' ∧ RdG w' p9 ps9 pw9 l sc wt, ⟨fun _ h => h.1, fun _ h => h.1.size, fun _ h => ⟨Below.alloc h.1 h.1.size _, RdG.alloc h.2 _⟩⟩, ⟨BI.next hy.1 b, RdG.below hy.2 b⟩, ?_⟩
    clear b hy
    refine chain_callE 99 rfl rfl rfl (fun w => by kernel_rfl) (fun wy hy => (HIm.out p9 ps9 pw9 n c9 ns cs9 nw cw9 wy F9.out hy.2 HCl.out).mono ?_)
    rintro e wz ⟨vl, vs, vw, rfl, og, b⟩
    obtain ⟨pc, cc, psc, csc, pwc, cwc, rfl, rfl, rfl, -⟩ := og.form
    rw [HMm.out, HMs.out, HMw.out] at og ⊢
    obtain ⟨Cc, hCc⟩ : ∃ Cc, wz.heap.size = Cc := ⟨_, rfl⟩
    have HCc := Lib.hid (show w11.heap.size ≤ Cc by rw [← hCc]; exact Nat.le_trans (Below.size hy.1) b.size)
    rw [hCc] at og
    refine ⟨_, rfl, b, fun w' => BI w11 w' ∧ OwnG w' w11.heap.size Cc (.slice pc a1 cc) (.slice psc a2 csc) (.slice pwc a3 cwc) L SC WR ∧ Cc ≤ w'.heap.size, ⟨fun _ h => h.1, fun _ h => h.1.size, fun _ h => ⟨Below.alloc h.1 h.1.size _, OwnG.alloc h.2.1 _, Nat.le_trans h.2.2 (by simp)⟩⟩, ⟨BI.next hy.1 b, OwnG.base og (Below.size hy.1), Nat.le_of_eq hCc.symm⟩, ?_⟩
    clear b hy og hCc
    refine chain_pure 94 (v := .tuple #[gval s1 n1 (.slice pc a1 cc) (.slice psc a2 csc) (.slice pwc a3 cwc), .int .i64 r1, .bool r2]) rfl rfl rfl (fun w => by kernel_rfl) ?_
    refine chain_pure 100 (v := gval s1 n1 (.slice pc a1 cc) (.slice psc a2 csc) (.slice pwc a3 cwc)) rfl rfl rfl (fun w => by kernel_rfl) ?_
    refine chain_pure 101 (v := .int .i64 r1) rfl rfl rfl (fun w => by kernel_rfl) ?_
    refine chain_pure 102 (v := .bool r2) rfl rfl rfl (fun w => by kernel_rfl) ?_
    refine ⟨s1, n1, .slice pc a1 cc, .slice psc a2 csc, .slice pwc a3 cwc, by kernel_rfl, rfl, rfl, rfl, by kernel_rfl, ?_⟩
    clear wy wz
    intro wq w13 g12 hI hg hb hG hD
    refine ⟨_, ⟨.int .i64 r1, by kernel_rfl, ⟨.bool r2, by kernel_rfl, rfl⟩⟩, ?_⟩
    simp only [Act.put, List.setIfInBounds_toArray, List.set_cons_zero, List.set_cons_succ]
    have b : Below w11.heap.size w11 w13 := Below.grown hI.1 hG hI.1.size (fun k hk => by injection hk with hk; omega)
    have HOF12 := Lib.hid (offG hI.2.1 hb rfl)
    have Oc := Lib.hid (OwnG.off hI.2.1 hG HOF12.out)
    have Rc := Lib.hid (OwnG.rd Oc.out)
    have HEc : Hid (Cc ≤ w13.heap.size) := Lib.hid (Nat.le_trans hI.2.2 hG.size)
    have K12 := Lib.hid hD
    have GE12 : Hid (w11.heap.size ≤ g12) := Lib.hid hg
    clear hI hg hb hG hD wq
    unfold ptr
    have Sw13 : Hid (w11.heap.size ≤ w13.heap.size) := Lib.hid (by first | exact b.size | (have h := b.size; simp at h; omega))
    have HB := Lib.hid (chain0 (w := w) (by repeat (first | with_reducible exact Below.refl _ _ | with_reducible exact HB.out | with_reducible apply Below.drew | with_reducible apply bdN | with_reducible refine Below.alloc ?_ (by first | exact Nat.le_refl _ | with_reducible exact HB.out.size | omega | (simp; done) | (simp; omega) | (have := HB.out.size; simp at *; omega)) _ | with_reducible refine Below.setCell ?_ (by first | exact Nat.le_refl _ | with_reducible exact HB.out.size | omega | (simp; done) | (simp; omega) | (have := HB.out.size; simp at *; omega)) _)) b)
    have K1 := Lib.hid (CBox.below (by repeat (first | with_reducible exact K1.out | with_reducible apply CBox.drewN | with_reducible apply CBox.drew | with_reducible apply CBox.alloc)) b)
    have HR := Lib.hid (RdG.below (by repeat (first | with_reducible exact HR.out | with_reducible apply RdG.drewN | with_reducible apply RdG.drew | with_reducible apply RdG.alloc)) b)
    have Oa := Lib.hid (OwnG.below (by repeat (first | with_reducible exact Oa.out | with_reducible apply OwnG.drewN | with_reducible apply OwnG.drew | with_reducible apply OwnG.alloc)) b)
    have Ra := Lib.hid (RdG.below (by repeat (first | with_reducible exact Ra.out | with_reducible apply RdG.drewN | with_reducible apply RdG.drew | with_reducible apply RdG.alloc)) b)
    have Ob := Lib.hid (OwnG.below (by repeat (first | with_reducible exact Ob.out | with_reducible apply OwnG.drewN | with_reducible apply OwnG.drew | with_reducible apply OwnG.alloc)) b)
    have K0 : Hid (GBox _ (w.heap.size) (⟨35, s, nx, .slice p n c, .slice ps ns cs, .slice pw nw cw⟩)) := Lib.hid (GBox.below (by repeat (first | with_reducible exact K0.out | with_reducible apply GBox.drewN | with_reducible apply GBox.drew | (with_reducible refine GBox.newAt ?_ ?_ <;> first | (simp; done) | rfl) | with_reducible apply GBox.alloc)) b)
    have K4 : Hid (GBox _ (g4) (⟨27, s1, n1, .slice pa a1 ca, .slice psa a2 csa, .slice pwa a3 cwa⟩)) := Lib.hid (GBox.below (by repeat (first | with_reducible exact K4.out | with_reducible apply GBox.drewN | with_reducible apply GBox.drew | (with_reducible refine GBox.newAt ?_ ?_ <;> first | (simp; done) | rfl) | with_reducible apply GBox.alloc)) b)
    have K7 : Hid (GBox _ (g7) (⟨27, s1, n1, .slice pb a1 cb, .slice psb a2 csb, .slice pwb a3 cwb⟩)) := Lib.hid (GBox.below (by repeat (first | with_reducible exact K7.out | with_reducible apply GBox.drewN | with_reducible apply GBox.drew | (with_reducible refine GBox.newAt ?_ ?_ <;> first | (simp; done) | rfl) | with_reducible apply GBox.alloc)) b)
    try clear k0a k0b k0c k0d k0e k0z
    have k0z := K0.out.lt
    obtain ⟨k0a, k0b, k0c, k0d, k0e⟩ := K0.out.cell
    try clear k4a k4b k4c k4d k4e k4z
    have k4z := K4.out.lt
    obtain ⟨k4a, k4b, k4c, k4d, k4e⟩ := K4.out.cell
    try clear k7a k7b k7c k7d k7e k7z
    have k7z := K7.out.lt
    obtain ⟨k7a, k7b, k7c, k7d, k7e⟩ := K7.out.cell
    clear b
    obtain ⟨k12a, k12b, k12c, k12d, k12e⟩ := K12.out.cell
    have k12z := K12.out.lt
    have G12 := Lib.hid k12z
    go_wp2_with fail
    refine ((eq_game s1 n1 L SC WR pc psc pwc pa psa pwa a1 cc ca a2 csc csa a3 cwc cwa _ HMm.out HMs.out HMw.out (by omega) (by omega) (by omega) Rc.out Ra.out)).mono ?_
    rintro e w14 ⟨rfl, b⟩
    have Sw14 : Hid (w13.heap.size ≤ w14.heap.size) := Lib.hid (by first | exact b.size | (have h := b.size; simp at h; omega))
    have HB := Lib.hid (chain0 (w := w) (by repeat (first | with_reducible exact Below.refl _ _ | with_reducible exact HB.out | with_reducible apply Below.drew | with_reducible apply bdN | with_reducible refine Below.alloc ?_ (by first | exact Nat.le_refl _ | with_reducible exact HB.out.size | omega | (simp; done) | (simp; omega) | (have := HB.out.size; simp at *; omega)) _ | with_reducible refine Below.setCell ?_ (by first | exact Nat.le_refl _ | with_reducible exact HB.out.size | omega | (simp; done) | (simp; omega) | (have := HB.out.size; simp at *; omega)) _)) b)
    have K1 := Lib.hid (CBox.below (by repeat (first | with_reducible exact K1.out | with_reducible apply CBox.drewN | with_reducible apply CBox.drew | with_reducible apply CBox.alloc)) b)
    have HR := Lib.hid (RdG.below (by repeat (first | with_reducible exact HR.out | with_reducible apply RdG.drewN | with_reducible apply RdG.drew | with_reducible apply RdG.alloc)) b)
    have Oa := Lib.hid (OwnG.below (by repeat (first | with_reducible exact Oa.out | with_reducible apply OwnG.drewN | with_reducible apply OwnG.drew | with_reducible apply OwnG.alloc)) b)
    have Ra := Lib.hid (RdG.below (by repeat (first | with_reducible exact Ra.out | with_reducible apply RdG.drewN | with_reducible apply RdG.drew | with_reducible apply RdG.alloc)) b)
    have Ob := Lib.hid (OwnG.below (by repeat (first | with_reducible exact Ob.out | with_reducible apply OwnG.drewN | with_reducible apply OwnG.drew | with_reducible apply OwnG.alloc)) b)
    have Oc := Lib.hid (OwnG.below (by repeat (first | with_reducible exact Oc.out | with_reducible apply OwnG.drewN | with_reducible apply OwnG.drew | with_reducible apply OwnG.alloc)) b)
    have Rc := Lib.hid (RdG.below (by repeat (first | with_reducible exact Rc.out | with_reducible apply RdG.drewN | with_reducible apply RdG.drew | with_reducible apply RdG.alloc)) b)
    have K0 : Hid (GBox _ (w.heap.size) (⟨35, s, nx, .slice p n c, .slice ps ns cs, .slice pw nw cw⟩)) := Lib.hid (GBox.below (by repeat (first | with_reducible exact K0.out | with_reducible apply GBox.drewN | with_reducible apply GBox.drew | (with_reducible refine GBox.newAt ?_ ?_ <;> first | (simp; done) | rfl) | with_reducible apply GBox.alloc)) b)
    have K4 : Hid (GBox _ (g4) (⟨27, s1, n1, .slice pa a1 ca, .slice psa a2 csa, .slice pwa a3 cwa⟩)) := Lib.hid (GBox.below (by repeat (first | with_reducible exact K4.out | with_reducible apply GBox.drewN | with_reducible apply GBox.drew | (with_reducible refine GBox.newAt ?_ ?_ <;> first | (simp; done) | rfl) | with_reducible apply GBox.alloc)) b)
    have K7 : Hid (GBox _ (g7) (⟨27, s1, n1, .slice pb a1 cb, .slice psb a2 csb, .slice pwb a3 cwb⟩)) := Lib.hid (GBox.below (by repeat (first | with_reducible exact K7.out | with_reducible apply GBox.drewN | with_reducible apply GBox.drew | (with_reducible refine GBox.newAt ?_ ?_ <;> first | (simp; done) | rfl) | with_reducible apply GBox.alloc)) b)
    have K12 : Hid (GBox _ (g12) (⟨27, s1, n1, .slice pc a1 cc, .slice psc a2 csc, .slice pwc a3 cwc⟩)) := Lib.hid (GBox.below (by repeat (first | with_reducible exact K12.out | with_reducible apply GBox.drewN | with_reducible apply GBox.drew | (with_reducible refine GBox.newAt ?_ ?_ <;> first | (simp; done) | rfl) | with_reducible apply GBox.alloc)) b)
    try clear k0a k0b k0c k0d k0e k0z
    have k0z := K0.out.lt
    obtain ⟨k0a, k0b, k0c, k0d, k0e⟩ := K0.out.cell
    try clear k4a k4b k4c k4d k4e k4z
    have k4z := K4.out.lt
    obtain ⟨k4a, k4b, k4c, k4d, k4e⟩ := K4.out.cell
    try clear k7a k7b k7c k7d k7e k7z
    have k7z := K7.out.lt
    obtain ⟨k7a, k7b, k7c, k7d, k7e⟩ := K7.out.cell
    try clear k12a k12b k12c k12d k12e k12z
    have k12z := K12.out.lt
    obtain ⟨k12a, k12b, k12c, k12d, k12e⟩ := K12.out.cell
    clear b
    go_wp2_with fail
    refine ((held_game s1 n1 (.slice pb a1 cb) (.slice psb a2 csb) (.slice pwb a3 cwb) _ _ 1 a1 a2 a3 _ (by omega) Ob.out)).mono ?_
    rintro e w15 ⟨rfl, b⟩
    have Sw15 : Hid (w14.heap.size ≤ w15.heap.size) := Lib.hid (by first | exact b.size | (have h := b.size; simp at h; omega))
    have HB := Lib.hid (chain0 (w := w) (by repeat (first | with_reducible exact Below.refl _ _ | with_reducible exact HB.out | with_reducible apply Below.drew | with_reducible apply bdN | with_reducible refine Below.alloc ?_ (by first | exact Nat.le_refl _ | with_reducible exact HB.out.size | omega | (simp; done) | (simp; omega) | (have := HB.out.size; simp at *; omega)) _ | with_reducible refine Below.setCell ?_ (by first | exact Nat.le_refl _ | with_reducible exact HB.out.size | omega | (simp; done) | (simp; omega) | (have := HB.out.size; simp at *; omega)) _)) b)
    have K1 := Lib.hid (CBox.below (by repeat (first | with_reducible exact K1.out | with_reducible apply CBox.drewN | with_reducible apply CBox.drew | with_reducible apply CBox.alloc)) b)
    have HR := Lib.hid (RdG.below (by repeat (first | with_reducible exact HR.out | with_reducible apply RdG.drewN | with_reducible apply RdG.drew | with_reducible apply RdG.alloc)) b)
    have Oa := Lib.hid (OwnG.below (by repeat (first | with_reducible exact Oa.out | with_reducible apply OwnG.drewN | with_reducible apply OwnG.drew | with_reducible apply OwnG.alloc)) b)
    have Ra := Lib.hid (RdG.below (by repeat (first | with_reducible exact Ra.out | with_reducible apply RdG.drewN | with_reducible apply RdG.drew | with_reducible apply RdG.alloc)) b)
    have Ob := Lib.hid (OwnG.below (by repeat (first | with_reducible exact Ob.out | with_reducible apply OwnG.drewN | with_reducible apply OwnG.drew | with_reducible apply OwnG.alloc)) b)
    have Oc := Lib.hid (OwnG.below (by repeat (first | with_reducible exact Oc.out | with_reducible apply OwnG.drewN | with_reducible apply OwnG.drew | with_reducible apply OwnG.alloc)) b)
    have Rc := Lib.hid (RdG.below (by repeat (first | with_reducible exact Rc.out | with_reducible apply RdG.drewN | with_reducible apply RdG.drew | with_reducible apply RdG.alloc)) b)
    have K0 : Hid (GBox _ (w.heap.size) (⟨35, s, nx, .slice p n c, .slice ps ns cs, .slice pw nw cw⟩)) := Lib.hid (GBox.below (by repeat (first | with_reducible exact K0.out | with_reducible apply GBox.drewN | with_reducible apply GBox.drew | (with_reducible refine GBox.newAt ?_ ?_ <;> first | (simp; done) | rfl) | with_reducible apply GBox.alloc)) b)
    have K4 : Hid (GBox _ (g4) (⟨27, s1, n1, .slice pa a1 ca, .slice psa a2 csa, .slice pwa a3 cwa⟩)) := Lib.hid (GBox.below (by repeat (first | with_reducible exact K4.out | with_reducible apply GBox.drewN | with_reducible apply GBox.drew | (with_reducible refine GBox.newAt ?_ ?_ <;> first | (simp; done) | rfl) | with_reducible apply GBox.alloc)) b)
    have K7 : Hid (GBox _ (g7) (⟨27, s1, n1, .slice pb a1 cb, .slice psb a2 csb, .slice pwb a3 cwb⟩)) := Lib.hid (GBox.below (by repeat (first | with_reducible exact K7.out | with_reducible apply GBox.drewN | with_reducible apply GBox.drew | (with_reducible refine GBox.newAt ?_ ?_ <;> first | (simp; done) | rfl) | with_reducible apply GBox.alloc)) b)
    have K12 : Hid (GBox _ (g12) (⟨27, s1, n1, .slice pc a1 cc, .slice psc a2 csc, .slice pwc a3 cwc⟩)) := Lib.hid (GBox.below (by repeat (first | with_reducible exact K12.out | with_reducible apply GBox.drewN | with_reducible apply GBox.drew | (with_reducible refine GBox.newAt ?_ ?_ <;> first | (simp; done) | rfl) | with_reducible apply GBox.alloc)) b)
    try clear k0a k0b k0c k0d k0e k0z
    have k0z := K0.out.lt
    obtain ⟨k0a, k0b, k0c, k0d, k0e⟩ := K0.out.cell
    try clear k4a k4b k4c k4d k4e k4z
    have k4z := K4.out.lt
    obtain ⟨k4a, k4b, k4c, k4d, k4e⟩ := K4.out.cell
    try clear k7a k7b k7c k7d k7e k7z
    have k7z := K7.out.lt
    obtain ⟨k7a, k7b, k7c, k7d, k7e⟩ := K7.out.cell
    try clear k12a k12b k12c k12d k12e k12z
    have k12z := K12.out.lt
    obtain ⟨k12a, k12b, k12c, k12d, k12e⟩ := K12.out.cell
    clear b
    go_wp2_with fail
    go_ret
    exact ⟨rfl, by repeat (first | with_reducible exact Below.refl _ _ | with_reducible exact HB.out | with_reducible apply Below.drew | with_reducible apply bdN | with_reducible refine Below.alloc ?_ (by first | exact Nat.le_refl _ | with_reducible exact HB.out.size | omega | (simp; done) | (simp; omega) | (have := HB.out.size; simp at *; omega)) _ | with_reducible refine Below.setCell ?_ (by first | exact Nat.le_refl _ | with_reducible exact HB.out.size | omega | (simp; done) | (simp; omega) | (have := HB.out.size; simp at *; omega)) _)⟩

theorem own : ownKnob Try.prog.godebug = none := by kernel_rfl
theorem laidOut : laidOutB Try.prog = true := by kernel_rfl
set_option maxRecDepth 100000 in
set_option maxHeartbeats 1000000 in
theorem lifted (os : Os) (started : os.Started) (H : Type) (enc : TypeId × Value → H) :
    ReturnsInHanded {} Try.checked os 6 .any (Rows.fnExactMakeClaimSpec.pre6 enc Try.prog Try.f6 Rows.fnExactMakeClaimRow.domain false) (Rows.fnExactMakeClaimSpec.post enc Try.prog Try.f6 false true false false) := by
  refine returnsInHanded_of_change (C := Try.checked) own started (by kernel_rfl) Try.func6
    (ChangeSpec.witness6 (enc := enc) (C := Try.checked) false ⟨#[], #[.agg #[.int .i64 0, .int .i64 0, .slice none 0 0, .slice none 0 0, .slice none 0 0], .agg #[.int .i64 0, .int .i64 0, .int .i64 0, .int .i64 0]], []⟩ 8 (by kernel_rfl) (by kernel_rfl) (by kernel_rfl) (by kernel_rfl)) ?_
  intro W base args ds gs before hval0 hW hcnd _
  have hval : ∀ (j : Nat) t v, Try.f6.params[j]? = some t → args[j]? = some v → Value.okWide Try.prog W .any base t v := hval0
  have hW' := hW
  obtain ⟨p, q, hA0, hV, rfl, hfz, hnd⟩ := hW
  have hA : DataW.TrodAll enc Try.prog W 0 (fun _ => true) true Try.f6.params.toList args.toList ds p := hA0
  rw [Try.params6] at hA hval
  have hR := fun (W' : World) (hb : Below W.heap.size W W') => frame.still_all laidOut hb _ _ _ _ (by decide +kernel) hA
  obtain ⟨v0, vs0, d0, ds0, p0, q0, hargs, rfl, hp, h0, r0⟩ := trodAll_cons hA
  obtain ⟨v1, vs1, d1, ds1, p1, q1, rfl, rfl, hp1, h1, r1⟩ := trodAll_cons r0
  obtain ⟨rfl, rfl, hpn⟩ := trodAll_nil r1
  obtain rfl : args = #[v0, v1] := by cases args; simp_all
  obtain ⟨rfl, rfl⟩ := trodVars_none hV
  obtain ⟨s0, x0, b0, n0, c0, l0, bs0, ns0, cs0, sc0, bw0, nw0, cw0, wt0, rfl, w0⟩ := frame.open_game Try.underlying35 rfl rfl rfl rfl rfl rfl Try.underlying33 rfl rfl rfl rfl rfl rfl Try.underlying3 (by kernel_rfl) Try.underlying22 (by kernel_rfl) Try.underlying52 Try.underlying3 (by kernel_rfl) (by kernel_rfl) Try.underlying25 (by kernel_rfl) (by kernel_rfl) (by kernel_rfl) (hval 0 35 v0 rfl rfl) h0
  obtain ⟨a1, rfl, w1⟩ := frame.open_claim Try.underlying42 rfl rfl rfl rfl Try.underlying3 (by kernel_rfl) Try.underlying40 (by kernel_rfl) (by kernel_rfl) (hval 1 42 v1 rfl rfl) h1
  clear hA0 hval0
  simp only [List.append_nil] at hW'
  refine (walk s0 x0 b0 n0 c0 l0 bs0 ns0 cs0 sc0 bw0 nw0 cw0 wt0 a1 W w0 w1).mono fun e W' ⟨he, hw⟩ => ?_
  subst he
  exact ⟨_, rfl, _, _, _, [], p, [], hW', trodAll_mk1 (shut_bool Try.underlying4 _), hR W' hw, rfl, hw.frame _, fun h => by cases h⟩

theorem over : Rows.fnExactMakeClaimRow.holds Try.pinned (OpenSpec.ofChange Rows.fnExactMakeClaimSpec) :=
  OpenClaim.holds_of_wide 6 Try.f6 rfl rfl rfl rfl rfl rfl rfl ⟨rfl, rfl, rfl, rfl, rfl⟩ rfl rfl rfl rfl rfl (by kernel_rfl) Try.func6 (by kernel_rfl)
    (of_decide_eq_true (by kernel_rfl)) (by unfold Func.isWrapper; first | (rw [if_pos (by decide +kernel)]; kernel_rfl) | (rw [if_neg (by decide +kernel)]; exact ⟨rfl, rfl⟩))
    (fun os started H enc _ => lifted os started H enc)

theorem proved : Rows.FnExactMakeClaimSaid := over
end Go.Proofs.Yteccbcbijfcpmaa.lawMakeClaim