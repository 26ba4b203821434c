/- FnExactWorthClaims: for every Game and every list of claims and every number, valid or not, the law returns true and its arguments read as before. No condition. -/
import Derived.Test.YtjpfjgoebdogjaaRows
import Derived.Test.YtjpfjgoebdogjaaEb
import Derived.Test.YtjpfjgoebdogjaaGWorthClaims0
import Derived.Test.YtjpfjgoebdogjaaGWorthClaims1
import Derived.Test.YtjpfjgoebdogjaaGWorthClaims2
namespace Go.Proofs.Ytjpfjgoebdogjaa.lawWorthClaims
open Go.ChangeShapes Go.WideShapes Go.ChangeAt Go.RowKit
open Go.ChangeMaps (open_string shut_string)
open cards deal reg game
set_option linter.unusedVariables false

set_option maxRecDepth 100000 in
set_option maxHeartbeats 8000000 in
theorem walk (s nx : Int) (p : Option Addr) (n c : Nat) (l : List Cd) (ps : Option Addr) (ns cs : Nat) (sc : List Int) (pw : Option Addr) (nw cw : Nat) (wt : List Int) (q : Option Addr) (m k : Nat) (cl : List Cd) (x : Int) (w : World) (hw : l.length = n ∧ n ≤ maxLen ∧ Rd w p (flat l) ∧ (∀ x ∈ l, wfc x) ∧ (Lit.int .i64 s).wf = true ∧ (Lit.int .i64 nx).wf = true ∧ sc.length = ns ∧ ns ≤ maxLen ∧ Rd w ps (ints sc) ∧ frame.wfI sc ∧ wt.length = nw ∧ nw ≤ maxLen ∧ Rd w pw (ints wt) ∧ frame.wfI wt) (hcl : cl.length = m ∧ m ≤ maxLen ∧ Rd w q (flat cl) ∧ ∀ x ∈ cl, wfc x) (hx : (Lit.int .i64 x).wf = true) :
    Calls Try.prog 5 #[gval s nx (.slice p n c) (.slice ps ns cs) (.slice pw nw cw), .slice q m k, .int .i64 x] w fun e w' => e = .returned (.bool true) ∧ Below w.heap.size w w' := by
  obtain ⟨hn, hm, hr, hwf, _, _, hsn, hsm, hsr, _, hwn, hwm, hwr, _⟩ := hw
  have HN := Lib.hid hn
  have HS := Lib.hid hsn
  have HW := Lib.hid hwn
  have HM := Lib.hid hm
  have HMS := Lib.hid hsm
  have HMW := Lib.hid hwm
  have HWf := Lib.hid hwf
  have HR : Hid (RdG w p ps pw l sc wt) := Lib.hid ⟨hr, hsr, hwr⟩
  have HR0 := Lib.hid HR.out
  obtain ⟨hcn, hcm, hcr, hcw⟩ := hcl
  have HCn := Lib.hid hcn
  have HCm := Lib.hid hcm
  have HRc := Lib.hid hcr
  have HRc0 := Lib.hid hcr
  have HCw := Lib.hid hcw
  clear hcn hcm hcr hcw
  have HX := Lib.hid hx
  clear hx
  clear hn hm hr hwf hsn hsm hsr hwn hwm hwr
  have HZ := Lib.hid (fun w => sz_game s nx p ps pw n c ns cs nw cw 1048576 w (by omega) (by omega) HM.out HMS.out HMW.out)
  have hz2 := fun h => szG_yes (n := n) (ns := ns) (nw := nw) h
  obtain ⟨z, hz⟩ : ∃ z, szG n ns nw 1048576 = z := ⟨_, rfl⟩
  rw [hz] at HZ hz2
  clear hz
  by_cases hz : z < 0
  · clear hz2
    go_enter Try.func5, Try.ntmps5
    go_wp2_with fail
    refine ((HZ.out _)).mono ?_
    rintro e w0 ⟨rfl, b⟩
    have Sw0 := Lib.hid b.size
    have HB := Lib.hid (chain0 (w := w) (by repeat (first | with_reducible exact Below.refl _ _ | with_reducible exact HB.out | with_reducible apply Below.drew | with_reducible apply bdN | with_reducible refine Below.alloc ?_ (by first | exact Nat.le_refl _ | with_reducible exact HB.out.size | omega | (simp; done) | (simp; omega) | (have := HB.out.size; simp at *; omega)) _)) b)
    have K0 : Hid (GBox _ (w.heap.size) (⟨27, s, nx, .slice p n c, .slice ps ns cs, .slice pw nw cw⟩)) := Lib.hid (GBox.below (by repeat (first | with_reducible exact K0.out | with_reducible apply GBox.drewN | with_reducible apply GBox.drew | (with_reducible refine GBox.newAt ?_ ?_ <;> first | (simp; done) | rfl) | with_reducible apply GBox.alloc)) b)
    try clear k0a k0b k0c k0d k0e k0z
    have k0z := K0.out.lt
    obtain ⟨k0a, k0b, k0c, k0d, k0e⟩ := K0.out.cell
    clear b
    go_wp2_with fail
    go_ret
    exact ⟨rfl, by repeat (first | with_reducible exact Below.refl _ _ | with_reducible exact HB.out | with_reducible apply Below.drew | with_reducible apply bdN | with_reducible refine Below.alloc ?_ (by first | exact Nat.le_refl _ | with_reducible exact HB.out.size | omega | (simp; done) | (simp; omega) | (have := HB.out.size; simp at *; omega)) _)⟩
  · have z1 : 0 ≤ z := by omega
    obtain ⟨zn, zs, zw, zz, zt⟩ := hz2 z1
    clear hz2 hz
    have HZc := Lib.hid (fun w => sz_claims q m k z w (by omega) (by omega) HCm.out)
    have hzy : szLeft m z = -1 ∨ (0 ≤ szLeft m z ∧ m ≤ 1048576) := by unfold szLeft; split <;> omega
    obtain ⟨y, hy⟩ : ∃ y, szLeft m z = y := ⟨_, rfl⟩
    rw [hy] at HZc hzy
    clear hy
    by_cases hy : y < 0
    · clear hzy
      go_enter Try.func5, Try.ntmps5
      go_wp2_with fail
      refine ((HZ.out _)).mono ?_
      rintro e w0 ⟨rfl, b⟩
      have Sw0 := Lib.hid b.size
      have HB := Lib.hid (chain0 (w := w) (by repeat (first | with_reducible exact Below.refl _ _ | with_reducible exact HB.out | with_reducible apply Below.drew | with_reducible apply bdN | with_reducible refine Below.alloc ?_ (by first | exact Nat.le_refl _ | with_reducible exact HB.out.size | omega | (simp; done) | (simp; omega) | (have := HB.out.size; simp at *; omega)) _)) b)
      have K0 : Hid (GBox _ (w.heap.size) (⟨27, s, nx, .slice p n c, .slice ps ns cs, .slice pw nw cw⟩)) := Lib.hid (GBox.below (by repeat (first | with_reducible exact K0.out | with_reducible apply GBox.drewN | with_reducible apply GBox.drew | (with_reducible refine GBox.newAt ?_ ?_ <;> first | (simp; done) | rfl) | with_reducible apply GBox.alloc)) b)
      try clear k0a k0b k0c k0d k0e k0z
      have k0z := K0.out.lt
      obtain ⟨k0a, k0b, k0c, k0d, k0e⟩ := K0.out.cell
      clear b
      go_wp2_with fail
      refine (HZc.out _).mono ?_
      rintro e w0c ⟨rfl, rfl⟩
      go_wp2_with fail
      go_ret
      exact ⟨rfl, by repeat (first | with_reducible exact Below.refl _ _ | with_reducible exact HB.out | with_reducible apply Below.drew | with_reducible apply bdN | with_reducible refine Below.alloc ?_ (by first | exact Nat.le_refl _ | with_reducible exact HB.out.size | omega | (simp; done) | (simp; omega) | (have := HB.out.size; simp at *; omega)) _)⟩
    have y1 : 0 ≤ y := by omega
    have ym : m ≤ 1048576 := by omega
    clear hy hzy
    have HSp := Lib.hid (fun p ps pw n c ns cs nw cw q k w hf hr hc hrc => spec_wc ⟨s, nx, l, sc, wt⟩ cl x q k p ps pw n c ns cs nw cw m w hf hr HCn.out hc HCw.out hrc)
    have HIm := Lib.hid (fun p ps pw n c ns cs nw cw q k w hf hr hc hrc => impl_wc ⟨s, nx, l, sc, wt⟩ cl x q k p ps pw n c ns cs nw cw m w hf hr HCn.out hc HCw.out hrc)
    obtain ⟨r0, hr0⟩ : ∃ r0, (wcR (Gm.mk s nx l sc wt) cl x).1 = r0 := ⟨_, rfl⟩
    obtain ⟨r1, hr1⟩ : ∃ r1, (wcR (Gm.mk s nx l sc wt) cl x).2 = r1 := ⟨_, rfl⟩
    rw [hr0, hr1] at HSp HIm
    clear hr0 hr1
    go_enter Try.func5, Try.ntmps5
    go_wp2_with fail
    refine ((HZ.out _)).mono ?_
    rintro e w0 ⟨rfl, b⟩
    have Sw0 : Hid (w.heap.size ≤ w0.heap.size) := Lib.hid (by first | exact b.size | (have h := b.size; simp at h; omega))
    have HB := Lib.hid (chain0 (w := w) (by repeat (first | with_reducible exact Below.refl _ _ | with_reducible exact HB.out | with_reducible apply Below.drew | with_reducible apply bdN | with_reducible refine Below.alloc ?_ (by first | exact Nat.le_refl _ | with_reducible exact HB.out.size | omega | (simp; done) | (simp; omega) | (have := HB.out.size; simp at *; omega)) _)) b)
    have HR := Lib.hid (RdG.below (by repeat (first | with_reducible exact HR.out | with_reducible apply RdG.drewN | with_reducible apply RdG.drew | with_reducible apply RdG.alloc)) b)
    have HRc := Lib.hid (Rd.below (by repeat (first | with_reducible exact HRc.out | with_reducible apply Rd.drewN | with_reducible apply Rd.drew | with_reducible apply Rd.alloc)) b)
    have K0 : Hid (GBox _ (w.heap.size) (⟨27, s, nx, .slice p n c, .slice ps ns cs, .slice pw nw cw⟩)) := Lib.hid (GBox.below (by repeat (first | with_reducible exact K0.out | with_reducible apply GBox.drewN | with_reducible apply GBox.drew | (with_reducible refine GBox.newAt ?_ ?_ <;> first | (simp; done) | rfl) | with_reducible apply GBox.alloc)) b)
    try clear k0a k0b k0c k0d k0e k0z
    have k0z := K0.out.lt
    obtain ⟨k0a, k0b, k0c, k0d, k0e⟩ := K0.out.cell
    clear b
    go_wp2_with fail
    refine (HZc.out _).mono ?_
    rintro e w0c ⟨rfl, rfl⟩
    have Yw1K0 := Lib.hid K0.out.lt
    go_wp2_with fail
    refine ((to_game s nx l sc wt p ps pw n c ns cs nw cw _ HN.out HS.out HW.out (by omega) (by omega) (by omega) HWf.out HR.out)).mono ?_
    rintro e w1 ⟨p1, c1, ps1, cs1, pw1, cw1, rfl, o1, r1, f1, b⟩
    have F1 := Lib.hid f1
    have Sw1 : Hid (w0.heap.size ≤ w1.heap.size) := Lib.hid (by first | exact b.size | (have h := b.size; simp at h; omega))
    have HB := Lib.hid (chain0 (w := w) (by repeat (first | with_reducible exact Below.refl _ _ | with_reducible exact HB.out | with_reducible apply Below.drew | with_reducible apply bdN | with_reducible refine Below.alloc ?_ (by first | exact Nat.le_refl _ | with_reducible exact HB.out.size | omega | (simp; done) | (simp; omega) | (have := HB.out.size; simp at *; omega)) _)) b)
    have Zw1 := Lib.hid HB.out.size
    have HR := Lib.hid (RdG.below (by repeat (first | with_reducible exact HR.out | with_reducible apply RdG.drewN | with_reducible apply RdG.drew | with_reducible apply RdG.alloc)) b)
    have HRc := Lib.hid (Rd.below (by repeat (first | with_reducible exact HRc.out | with_reducible apply Rd.drewN | with_reducible apply Rd.drew | with_reducible apply Rd.alloc)) b)
    have K0 : Hid (GBox _ (w.heap.size) (⟨27, s, nx, .slice p n c, .slice ps ns cs, .slice pw nw cw⟩)) := Lib.hid (GBox.below (by repeat (first | with_reducible exact K0.out | with_reducible apply GBox.drewN | with_reducible apply GBox.drew | (with_reducible refine GBox.newAt ?_ ?_ <;> first | (simp; done) | rfl) | with_reducible apply GBox.alloc)) b)
    try clear k0a k0b k0c k0d k0e k0z
    have k0z := K0.out.lt
    obtain ⟨k0a, k0b, k0c, k0d, k0e⟩ := K0.out.cell
    have O1 : Hid (OwnG w1 w0.heap.size w1.heap.size _ _ _ _ _ _) := Lib.hid (OwnG.base o1 (by first | exact Nat.le_refl _ | (simp; done) | (simp; omega)))
    have R1 := Lib.hid r1
    clear b o1 r1 f1
    have Yw1cK0 := Lib.hid K0.out.lt
    go_wp2_with fail
    refine ((to_claims cl q m k _ HCn.out (by omega) HRc.out)).mono ?_
    rintro e w1c ⟨qx1, kx1, rfl, ox1, rx1, hcx1, b⟩
    have HCx1 := Lib.hid hcx1
    clear hcx1
    have Sw1c : Hid (w1.heap.size ≤ w1c.heap.size) := Lib.hid (by first | exact b.size | (have h := b.size; simp at h; omega))
    have HB := Lib.hid (chain0 (w := w) (by repeat (first | with_reducible exact Below.refl _ _ | with_reducible exact HB.out | with_reducible apply Below.drew | with_reducible apply bdN | with_reducible refine Below.alloc ?_ (by first | exact Nat.le_refl _ | with_reducible exact HB.out.size | omega | (simp; done) | (simp; omega) | (have := HB.out.size; simp at *; omega)) _)) b)
    have Zw1c := Lib.hid HB.out.size
    have HR := Lib.hid (RdG.below (by repeat (first | with_reducible exact HR.out | with_reducible apply RdG.drewN | with_reducible apply RdG.drew | with_reducible apply RdG.alloc)) b)
    have HRc := Lib.hid (Rd.below (by repeat (first | with_reducible exact HRc.out | with_reducible apply Rd.drewN | with_reducible apply Rd.drew | with_reducible apply Rd.alloc)) b)
    have O1 := Lib.hid (OwnG.below (by repeat (first | with_reducible exact O1.out | with_reducible apply OwnG.drewN | with_reducible apply OwnG.drew | with_reducible apply OwnG.alloc)) b)
    have R1 := Lib.hid (RdG.below (by repeat (first | with_reducible exact R1.out | with_reducible apply RdG.drewN | with_reducible apply RdG.drew | with_reducible apply RdG.alloc)) b)
    have K0 : Hid (GBox _ (w.heap.size) (⟨27, s, nx, .slice p n c, .slice ps ns cs, .slice pw nw cw⟩)) := Lib.hid (GBox.below (by repeat (first | with_reducible exact K0.out | with_reducible apply GBox.drewN | with_reducible apply GBox.drew | (with_reducible refine GBox.newAt ?_ ?_ <;> first | (simp; done) | rfl) | with_reducible apply GBox.alloc)) b)
    try clear k0a k0b k0c k0d k0e k0z
    have k0z := K0.out.lt
    obtain ⟨k0a, k0b, k0c, k0d, k0e⟩ := K0.out.cell
    have Ox1 : Hid (OwnC w1c w1.heap.size w1c.heap.size _ _) := Lib.hid (OwnC.base ox1 (by first | exact Nat.le_refl _ | (simp; done) | (simp; omega)))
    have Rx1 := Lib.hid rx1
    clear b ox1 rx1
    go_wp2_with fail
    refine ((HSp.out p1 ps1 pw1 n c1 ns cs1 nw cw1 qx1 kx1 _ F1.out R1.out HCx1.out Rx1.out)).mono ?_
    rintro e w2 ⟨rfl, b⟩
    have Sw2 : Hid (w1c.heap.size ≤ w2.heap.size) := Lib.hid (by first | exact b.size | (have h := b.size; simp at h; omega))
    have HB := Lib.hid (chain0 (w := w) (by repeat (first | with_reducible exact Below.refl _ _ | with_reducible exact HB.out | with_reducible apply Below.drew | with_reducible apply bdN | with_reducible refine Below.alloc ?_ (by first | exact Nat.le_refl _ | with_reducible exact HB.out.size | omega | (simp; done) | (simp; omega) | (have := HB.out.size; simp at *; omega)) _)) b)
    have HR := Lib.hid (RdG.below (by repeat (first | with_reducible exact HR.out | with_reducible apply RdG.drewN | with_reducible apply RdG.drew | with_reducible apply RdG.alloc)) b)
    have HRc := Lib.hid (Rd.below (by repeat (first | with_reducible exact HRc.out | with_reducible apply Rd.drewN | with_reducible apply Rd.drew | with_reducible apply Rd.alloc)) b)
    have O1 := Lib.hid (OwnG.below (by repeat (first | with_reducible exact O1.out | with_reducible apply OwnG.drewN | with_reducible apply OwnG.drew | with_reducible apply OwnG.alloc)) b)
    have R1 := Lib.hid (RdG.below (by repeat (first | with_reducible exact R1.out | with_reducible apply RdG.drewN | with_reducible apply RdG.drew | with_reducible apply RdG.alloc)) b)
    have Ox1 := Lib.hid (OwnC.below (by repeat (first | with_reducible exact Ox1.out | with_reducible apply OwnC.drewN | with_reducible apply OwnC.drew | with_reducible apply OwnC.alloc)) b)
    have Rx1 := Lib.hid (Rd.below (by repeat (first | with_reducible exact Rx1.out | with_reducible apply Rd.drewN | with_reducible apply Rd.drew | with_reducible apply Rd.alloc)) b)
    have K0 : Hid (GBox _ (w.heap.size) (⟨27, s, nx, .slice p n c, .slice ps ns cs, .slice pw nw cw⟩)) := Lib.hid (GBox.below (by repeat (first | with_reducible exact K0.out | with_reducible apply GBox.drewN | with_reducible apply GBox.drew | (with_reducible refine GBox.newAt ?_ ?_ <;> first | (simp; done) | rfl) | with_reducible apply GBox.alloc)) b)
    try clear k0a k0b k0c k0d k0e k0z
    have k0z := K0.out.lt
    obtain ⟨k0a, k0b, k0c, k0d, k0e⟩ := K0.out.cell
    clear b
    have Yw3K0 := Lib.hid K0.out.lt
    go_wp2_with fail
    refine ((to_game s nx l sc wt p ps pw n c ns cs nw cw _ HN.out HS.out HW.out (by omega) (by omega) (by omega) HWf.out HR.out)).mono ?_
    rintro e w3 ⟨p2, c2, ps2, cs2, pw2, cw2, rfl, o2, r2, f2, b⟩
    have F2 := Lib.hid f2
    have Sw3 : Hid (w2.heap.size ≤ w3.heap.size) := Lib.hid (by first | exact b.size | (have h := b.size; simp at h; omega))
    have HB := Lib.hid (chain0 (w := w) (by repeat (first | with_reducible exact Below.refl _ _ | with_reducible exact HB.out | with_reducible apply Below.drew | with_reducible apply bdN | with_reducible refine Below.alloc ?_ (by first | exact Nat.le_refl _ | with_reducible exact HB.out.size | omega | (simp; done) | (simp; omega) | (have := HB.out.size; simp at *; omega)) _)) b)
    have Zw3 := Lib.hid HB.out.size
    have HR := Lib.hid (RdG.below (by repeat (first | with_reducible exact HR.out | with_reducible apply RdG.drewN | with_reducible apply RdG.drew | with_reducible apply RdG.alloc)) b)
    have HRc := Lib.hid (Rd.below (by repeat (first | with_reducible exact HRc.out | with_reducible apply Rd.drewN | with_reducible apply Rd.drew | with_reducible apply Rd.alloc)) b)
    have K0 : Hid (GBox _ (w.heap.size) (⟨27, s, nx, .slice p n c, .slice ps ns cs, .slice pw nw cw⟩)) := Lib.hid (GBox.below (by repeat (first | with_reducible exact K0.out | with_reducible apply GBox.drewN | with_reducible apply GBox.drew | (with_reducible refine GBox.newAt ?_ ?_ <;> first | (simp; done) | rfl) | with_reducible apply GBox.alloc)) b)
    try clear k0a k0b k0c k0d k0e k0z
    have k0z := K0.out.lt
    obtain ⟨k0a, k0b, k0c, k0d, k0e⟩ := K0.out.cell
    have O2 : Hid (OwnG w3 w2.heap.size w3.heap.size _ _ _ _ _ _) := Lib.hid (OwnG.base o2 (by first | exact Nat.le_refl _ | (simp; done) | (simp; omega)))
    have R2 := Lib.hid r2
    clear b o2 r2 f2
    go_upto_region 10 with fail
    have K6 : Hid (GBox (w3.alloc (Gv.obj (⟨33, s, nx, .slice p2 n c2, .slice ps2 ns cs2, .slice pw2 nw cw2⟩))) w3.heap.size (⟨33, s, nx, .slice p2 n c2, .slice ps2 ns cs2, .slice pw2 nw cw2⟩)) := Lib.hid (GBox.newAt rfl rfl)
    obtain ⟨g6, hg⟩ : ∃ g6, w3.heap.size = g6 := ⟨_, rfl⟩
    have HGg6 := Lib.hid hg
    rw [hg] at K6
    try rw [hg]
    clear hg
    obtain ⟨w3b, ew, b⟩ : ∃ wOPN : World, wOPN = (w3.alloc (Gv.obj (⟨33, s, nx, .slice p2 n c2, .slice ps2 ns cs2, .slice pw2 nw cw2⟩))) ∧ Below ((w3.alloc (Gv.obj (⟨33, s, nx, .slice p2 n c2, .slice ps2 ns cs2, .slice pw2 nw cw2⟩)))).heap.size ((w3.alloc (Gv.obj (⟨33, s, nx, .slice p2 n c2, .slice ps2 ns cs2, .slice pw2 nw cw2⟩)))) wOPN := ⟨_, rfl, Below.refl _ _⟩
    rw [← ew]
    clear ew
    have Sw3b : Hid (w3.heap.size ≤ w3b.heap.size) := Lib.hid (by first | exact b.size | (have h := b.size; simp at h; omega))
    have HB := Lib.hid (chain0 (w := w) (by repeat (first | with_reducible exact Below.refl _ _ | with_reducible exact HB.out | with_reducible apply Below.drew | with_reducible apply bdN | with_reducible refine Below.alloc ?_ (by first | exact Nat.le_refl _ | with_reducible exact HB.out.size | omega | (simp; done) | (simp; omega) | (have := HB.out.size; simp at *; omega)) _)) b)
    have HR := Lib.hid (RdG.below (by repeat (first | with_reducible exact HR.out | with_reducible apply RdG.drewN | with_reducible apply RdG.drew | with_reducible apply RdG.alloc)) b)
    have HRc := Lib.hid (Rd.below (by repeat (first | with_reducible exact HRc.out | with_reducible apply Rd.drewN | with_reducible apply Rd.drew | with_reducible apply Rd.alloc)) b)
    have O2 := Lib.hid (OwnG.below (by repeat (first | with_reducible exact O2.out | with_reducible apply OwnG.drewN | with_reducible apply OwnG.drew | with_reducible apply OwnG.alloc)) b)
    have R2 := Lib.hid (RdG.below (by repeat (first | with_reducible exact R2.out | with_reducible apply RdG.drewN | with_reducible apply RdG.drew | with_reducible apply RdG.alloc)) b)
    have K0 : Hid (GBox _ (w.heap.size) (⟨27, s, nx, .slice p n c, .slice ps ns cs, .slice pw nw cw⟩)) := Lib.hid (GBox.below (by repeat (first | with_reducible exact K0.out | with_reducible apply GBox.drewN | with_reducible apply GBox.drew | (with_reducible refine GBox.newAt ?_ ?_ <;> first | (simp; done) | rfl) | with_reducible apply GBox.alloc)) b)
    have K6 : Hid (GBox _ (g6) (⟨33, s, nx, .slice p2 n c2, .slice ps2 ns cs2, .slice pw2 nw cw2⟩)) := Lib.hid (GBox.below (by repeat (first | with_reducible exact K6.out | with_reducible apply GBox.drewN | with_reducible apply GBox.drew | (with_reducible refine GBox.newAt ?_ ?_ <;> first | (simp; done) | rfl) | with_reducible apply GBox.alloc)) b)
    try clear k0a k0b k0c k0d k0e k0z
    have k0z := K0.out.lt
    obtain ⟨k0a, k0b, k0c, k0d, k0e⟩ := K0.out.cell
    try clear k6a k6b k6c k6d k6e k6z
    have k6z := K6.out.lt
    obtain ⟨k6a, k6b, k6c, k6d, k6e⟩ := K6.out.cell
    clear b
    have Gg6 := Lib.hid K6.out.lt
    have Yw3cK0 := Lib.hid K0.out.lt
    have Yw3cK6 := Lib.hid K6.out.lt
    go_wp2_with fail
    refine ((to_claims cl q m k _ HCn.out (by omega) HRc.out)).mono ?_
    rintro e w3c ⟨qx2, kx2, rfl, ox2, rx2, hcx2, b⟩
    have HCx2 := Lib.hid hcx2
    clear hcx2
    have Sw3c : Hid (w3b.heap.size ≤ w3c.heap.size) := Lib.hid (by first | exact b.size | (have h := b.size; simp at h; omega))
    have HB := Lib.hid (chain0 (w := w) (by repeat (first | with_reducible exact Below.refl _ _ | with_reducible exact HB.out | with_reducible apply Below.drew | with_reducible apply bdN | with_reducible refine Below.alloc ?_ (by first | exact Nat.le_refl _ | with_reducible exact HB.out.size | omega | (simp; done) | (simp; omega) | (have := HB.out.size; simp at *; omega)) _)) b)
    have Zw3c := Lib.hid HB.out.size
    have HR := Lib.hid (RdG.below (by repeat (first | with_reducible exact HR.out | with_reducible apply RdG.drewN | with_reducible apply RdG.drew | with_reducible apply RdG.alloc)) b)
    have HRc := Lib.hid (Rd.below (by repeat (first | with_reducible exact HRc.out | with_reducible apply Rd.drewN | with_reducible apply Rd.drew | with_reducible apply Rd.alloc)) b)
    have O2 := Lib.hid (OwnG.below (by repeat (first | with_reducible exact O2.out | with_reducible apply OwnG.drewN | with_reducible apply OwnG.drew | with_reducible apply OwnG.alloc)) b)
    have R2 := Lib.hid (RdG.below (by repeat (first | with_reducible exact R2.out | with_reducible apply RdG.drewN | with_reducible apply RdG.drew | with_reducible apply RdG.alloc)) b)
    have K0 : Hid (GBox _ (w.heap.size) (⟨27, s, nx, .slice p n c, .slice ps ns cs, .slice pw nw cw⟩)) := Lib.hid (GBox.below (by repeat (first | with_reducible exact K0.out | with_reducible apply GBox.drewN | with_reducible apply GBox.drew | (with_reducible refine GBox.newAt ?_ ?_ <;> first | (simp; done) | rfl) | with_reducible apply GBox.alloc)) b)
    have K6 : Hid (GBox _ (g6) (⟨33, s, nx, .slice p2 n c2, .slice ps2 ns cs2, .slice pw2 nw cw2⟩)) := Lib.hid (GBox.below (by repeat (first | with_reducible exact K6.out | with_reducible apply GBox.drewN | with_reducible apply GBox.drew | (with_reducible refine GBox.newAt ?_ ?_ <;> first | (simp; done) | rfl) | with_reducible apply GBox.alloc)) b)
    try clear k0a k0b k0c k0d k0e k0z
    have k0z := K0.out.lt
    obtain ⟨k0a, k0b, k0c, k0d, k0e⟩ := K0.out.cell
    try clear k6a k6b k6c k6d k6e k6z
    have k6z := K6.out.lt
    obtain ⟨k6a, k6b, k6c, k6d, k6e⟩ := K6.out.cell
    have Ox2 : Hid (OwnC w3c w3b.heap.size w3c.heap.size _ _) := Lib.hid (OwnC.base ox2 (by first | exact Nat.le_refl _ | (simp; done) | (simp; omega)))
    have Rx2 := Lib.hid rx2
    clear b ox2 rx2
    go_wp2_with fail
    refine ((HIm.out p2 ps2 pw2 n c2 ns cs2 nw cw2 qx2 kx2 _ F2.out R2.out HCx2.out Rx2.out)).mono ?_
    rintro e w4 ⟨rfl, b⟩
    have Sw4 : Hid (w3c.heap.size ≤ w4.heap.size) := Lib.hid (by first | exact b.size | (have h := b.size; simp at h; omega))
    have HB := Lib.hid (chain0 (w := w) (by repeat (first | with_reducible exact Below.refl _ _ | with_reducible exact HB.out | with_reducible apply Below.drew | with_reducible apply bdN | with_reducible refine Below.alloc ?_ (by first | exact Nat.le_refl _ | with_reducible exact HB.out.size | omega | (simp; done) | (simp; omega) | (have := HB.out.size; simp at *; omega)) _)) b)
    have HR := Lib.hid (RdG.below (by repeat (first | with_reducible exact HR.out | with_reducible apply RdG.drewN | with_reducible apply RdG.drew | with_reducible apply RdG.alloc)) b)
    have HRc := Lib.hid (Rd.below (by repeat (first | with_reducible exact HRc.out | with_reducible apply Rd.drewN | with_reducible apply Rd.drew | with_reducible apply Rd.alloc)) b)
    have O2 := Lib.hid (OwnG.below (by repeat (first | with_reducible exact O2.out | with_reducible apply OwnG.drewN | with_reducible apply OwnG.drew | with_reducible apply OwnG.alloc)) b)
    have R2 := Lib.hid (RdG.below (by repeat (first | with_reducible exact R2.out | with_reducible apply RdG.drewN | with_reducible apply RdG.drew | with_reducible apply RdG.alloc)) b)
    have Ox2 := Lib.hid (OwnC.below (by repeat (first | with_reducible exact Ox2.out | with_reducible apply OwnC.drewN | with_reducible apply OwnC.drew | with_reducible apply OwnC.alloc)) b)
    have Rx2 := Lib.hid (Rd.below (by repeat (first | with_reducible exact Rx2.out | with_reducible apply Rd.drewN | with_reducible apply Rd.drew | with_reducible apply Rd.alloc)) b)
    have K0 : Hid (GBox _ (w.heap.size) (⟨27, s, nx, .slice p n c, .slice ps ns cs, .slice pw nw cw⟩)) := Lib.hid (GBox.below (by repeat (first | with_reducible exact K0.out | with_reducible apply GBox.drewN | with_reducible apply GBox.drew | (with_reducible refine GBox.newAt ?_ ?_ <;> first | (simp; done) | rfl) | with_reducible apply GBox.alloc)) b)
    have K6 : Hid (GBox _ (g6) (⟨33, s, nx, .slice p2 n c2, .slice ps2 ns cs2, .slice pw2 nw cw2⟩)) := Lib.hid (GBox.below (by repeat (first | with_reducible exact K6.out | with_reducible apply GBox.drewN | with_reducible apply GBox.drew | (with_reducible refine GBox.newAt ?_ ?_ <;> first | (simp; done) | rfl) | with_reducible apply GBox.alloc)) b)
    try clear k0a k0b k0c k0d k0e k0z
    have k0z := K0.out.lt
    obtain ⟨k0a, k0b, k0c, k0d, k0e⟩ := K0.out.cell
    try clear k6a k6b k6c k6d k6e k6z
    have k6z := K6.out.lt
    obtain ⟨k6a, k6b, k6c, k6d, k6e⟩ := K6.out.cell
    clear b
    go_upto_region 14 with fail
    refine region_BI [(true, 0), (true, 1), (false, 2), (false, 3), (true, 4)] (by kernel_rfl) rfl (by kernel_rfl) ?_
    refine chain_load 52 rfl rfl rfl 33 _ rfl rfl #[.int .i64 s, .int .i64 nx, .slice p2 n c2, .slice ps2 ns cs2, .slice pw2 nw cw2] (fun w h => GBox.below K6.out h) Try.underlying33 rfl (by kernel_rfl) ?_
    refine chain_load 53 rfl rfl rfl 27 _ rfl rfl #[.int .i64 s, .int .i64 nx, .slice p n c, .slice ps ns cs, .slice pw nw cw] (fun w h => GBox.below K0.out h) Try.underlying27 rfl (by kernel_rfl) ?_
    refine chain_callE 54 rfl rfl rfl (fun w => by kernel_rfl) (fun wy hy => (to_game s nx l sc wt p ps pw n c ns cs nw cw wy HN.out HS.out HW.out (by omega) (by omega) (by omega) HWf.out (RdG.below HR.out hy)).mono ?_)
    rintro e wz ⟨p3, c3, ps3, cs3, pw3, cw3, rfl, o3, r3, f3, b⟩
    refine ⟨_, rfl, b, fun w' => BI w4 w' ∧ RdG w' p3 ps3 pw3 l sc wt, ⟨fun _ h => h.1, fun _ h => h.1.size, fun _ h => ⟨Below.alloc h.1 h.1.size _, RdG.alloc h.2 _⟩⟩, ⟨BI.next hy b, r3⟩, ?_⟩
    clear b r3 o3 f3 hy
    refine chain_callE 55 rfl rfl rfl (fun w => by kernel_rfl) (fun wy hy => (eq_game s nx l sc wt p2 ps2 pw2 p3 ps3 pw3 n c2 c3 ns cs2 cs3 nw cw2 cw3 wy HN.out HS.out HW.out (by omega) (by omega) (by omega) (RdG.below R2.out hy.1) hy.2).mono ?_)
    rintro e wz ⟨rfl, b⟩
    refine ⟨_, rfl, b, fun w' => BI w4 w', ⟨fun _ h => h, fun _ h => h.size, fun _ h => Below.alloc h h.size _⟩, BI.next hy.1 b, ?_⟩
    clear b hy
    refine chain_pure 56 (v := .bool false) rfl rfl rfl (fun w => by kernel_rfl) ?_
    clear wy wz
    intro w7 hI
    have b : Below w4.heap.size w4 w7 := hI
    clear hI
    have Sw7 : Hid (w4.heap.size ≤ w7.heap.size) := Lib.hid (by first | exact b.size | (have h := b.size; simp at h; omega))
    have HB := Lib.hid (chain0 (w := w) (by repeat (first | with_reducible exact Below.refl _ _ | with_reducible exact HB.out | with_reducible apply Below.drew | with_reducible apply bdN | with_reducible refine Below.alloc ?_ (by first | exact Nat.le_refl _ | with_reducible exact HB.out.size | omega | (simp; done) | (simp; omega) | (have := HB.out.size; simp at *; omega)) _)) b)
    have HR := Lib.hid (RdG.below (by repeat (first | with_reducible exact HR.out | with_reducible apply RdG.drewN | with_reducible apply RdG.drew | with_reducible apply RdG.alloc)) b)
    have HRc := Lib.hid (Rd.below (by repeat (first | with_reducible exact HRc.out | with_reducible apply Rd.drewN | with_reducible apply Rd.drew | with_reducible apply Rd.alloc)) b)
    have O2 := Lib.hid (OwnG.below (by repeat (first | with_reducible exact O2.out | with_reducible apply OwnG.drewN | with_reducible apply OwnG.drew | with_reducible apply OwnG.alloc)) b)
    have R2 := Lib.hid (RdG.below (by repeat (first | with_reducible exact R2.out | with_reducible apply RdG.drewN | with_reducible apply RdG.drew | with_reducible apply RdG.alloc)) b)
    have Ox2 := Lib.hid (OwnC.below (by repeat (first | with_reducible exact Ox2.out | with_reducible apply OwnC.drewN | with_reducible apply OwnC.drew | with_reducible apply OwnC.alloc)) b)
    have Rx2 := Lib.hid (Rd.below (by repeat (first | with_reducible exact Rx2.out | with_reducible apply Rd.drewN | with_reducible apply Rd.drew | with_reducible apply Rd.alloc)) b)
    have K0 : Hid (GBox _ (w.heap.size) (⟨27, s, nx, .slice p n c, .slice ps ns cs, .slice pw nw cw⟩)) := Lib.hid (GBox.below (by repeat (first | with_reducible exact K0.out | with_reducible apply GBox.drewN | with_reducible apply GBox.drew | (with_reducible refine GBox.newAt ?_ ?_ <;> first | (simp; done) | rfl) | with_reducible apply GBox.alloc)) b)
    have K6 : Hid (GBox _ (g6) (⟨33, s, nx, .slice p2 n c2, .slice ps2 ns cs2, .slice pw2 nw cw2⟩)) := Lib.hid (GBox.below (by repeat (first | with_reducible exact K6.out | with_reducible apply GBox.drewN | with_reducible apply GBox.drew | (with_reducible refine GBox.newAt ?_ ?_ <;> first | (simp; done) | rfl) | with_reducible apply GBox.alloc)) b)
    try clear k0a k0b k0c k0d k0e k0z
    have k0z := K0.out.lt
    obtain ⟨k0a, k0b, k0c, k0d, k0e⟩ := K0.out.cell
    try clear k6a k6b k6c k6d k6e k6z
    have k6z := K6.out.lt
    obtain ⟨k6a, k6b, k6c, k6d, k6e⟩ := K6.out.cell
    clear b
    have Yw7cK0 := Lib.hid K0.out.lt
    have Yw7cK6 := Lib.hid K6.out.lt
    go_wp2_with fail
    refine ((to_claims cl q m k _ HCn.out (by omega) HRc.out)).mono ?_
    rintro e w7c ⟨qx3, kx3, rfl, ox3, rx3, hcx3, b⟩
    have HCx3 := Lib.hid hcx3
    clear hcx3
    have Sw7c : Hid (w7.heap.size ≤ w7c.heap.size) := Lib.hid (by first | exact b.size | (have h := b.size; simp at h; omega))
    have HB := Lib.hid (chain0 (w := w) (by repeat (first | with_reducible exact Below.refl _ _ | with_reducible exact HB.out | with_reducible apply Below.drew | with_reducible apply bdN | with_reducible refine Below.alloc ?_ (by first | exact Nat.le_refl _ | with_reducible exact HB.out.size | omega | (simp; done) | (simp; omega) | (have := HB.out.size; simp at *; omega)) _)) b)
    have Zw7c := Lib.hid HB.out.size
    have HR := Lib.hid (RdG.below (by repeat (first | with_reducible exact HR.out | with_reducible apply RdG.drewN | with_reducible apply RdG.drew | with_reducible apply RdG.alloc)) b)
    have HRc := Lib.hid (Rd.below (by repeat (first | with_reducible exact HRc.out | with_reducible apply Rd.drewN | with_reducible apply Rd.drew | with_reducible apply Rd.alloc)) b)
    have O2 := Lib.hid (OwnG.below (by repeat (first | with_reducible exact O2.out | with_reducible apply OwnG.drewN | with_reducible apply OwnG.drew | with_reducible apply OwnG.alloc)) b)
    have R2 := Lib.hid (RdG.below (by repeat (first | with_reducible exact R2.out | with_reducible apply RdG.drewN | with_reducible apply RdG.drew | with_reducible apply RdG.alloc)) b)
    have Ox2 := Lib.hid (OwnC.below (by repeat (first | with_reducible exact Ox2.out | with_reducible apply OwnC.drewN | with_reducible apply OwnC.drew | with_reducible apply OwnC.alloc)) b)
    have Rx2 := Lib.hid (Rd.below (by repeat (first | with_reducible exact Rx2.out | with_reducible apply Rd.drewN | with_reducible apply Rd.drew | with_reducible apply Rd.alloc)) b)
    have K0 : Hid (GBox _ (w.heap.size) (⟨27, s, nx, .slice p n c, .slice ps ns cs, .slice pw nw cw⟩)) := Lib.hid (GBox.below (by repeat (first | with_reducible exact K0.out | with_reducible apply GBox.drewN | with_reducible apply GBox.drew | (with_reducible refine GBox.newAt ?_ ?_ <;> first | (simp; done) | rfl) | with_reducible apply GBox.alloc)) b)
    have K6 : Hid (GBox _ (g6) (⟨33, s, nx, .slice p2 n c2, .slice ps2 ns cs2, .slice pw2 nw cw2⟩)) := Lib.hid (GBox.below (by repeat (first | with_reducible exact K6.out | with_reducible apply GBox.drewN | with_reducible apply GBox.drew | (with_reducible refine GBox.newAt ?_ ?_ <;> first | (simp; done) | rfl) | with_reducible apply GBox.alloc)) b)
    try clear k0a k0b k0c k0d k0e k0z
    have k0z := K0.out.lt
    obtain ⟨k0a, k0b, k0c, k0d, k0e⟩ := K0.out.cell
    try clear k6a k6b k6c k6d k6e k6z
    have k6z := K6.out.lt
    obtain ⟨k6a, k6b, k6c, k6d, k6e⟩ := K6.out.cell
    have Ox3 : Hid (OwnC w7c w7.heap.size w7c.heap.size _ _) := Lib.hid (OwnC.base ox3 (by first | exact Nat.le_refl _ | (simp; done) | (simp; omega)))
    have Rx3 := Lib.hid rx3
    clear b ox3 rx3
    go_wp2_with fail
    refine ((eq_claims cl qx2 qx3 m kx2 kx3 _ HCn.out (by omega) Rx2.out Rx3.out)).mono ?_
    rintro e w7d ⟨rfl, b⟩
    have Sw7d : Hid (w7c.heap.size ≤ w7d.heap.size) := Lib.hid (by first | exact b.size | (have h := b.size; simp at h; omega))
    have HB := Lib.hid (chain0 (w := w) (by repeat (first | with_reducible exact Below.refl _ _ | with_reducible exact HB.out | with_reducible apply Below.drew | with_reducible apply bdN | with_reducible refine Below.alloc ?_ (by first | exact Nat.le_refl _ | with_reducible exact HB.out.size | omega | (simp; done) | (simp; omega) | (have := HB.out.size; simp at *; omega)) _)) b)
    have HR := Lib.hid (RdG.below (by repeat (first | with_reducible exact HR.out | with_reducible apply RdG.drewN | with_reducible apply RdG.drew | with_reducible apply RdG.alloc)) b)
    have HRc := Lib.hid (Rd.below (by repeat (first | with_reducible exact HRc.out | with_reducible apply Rd.drewN | with_reducible apply Rd.drew | with_reducible apply Rd.alloc)) b)
    have O2 := Lib.hid (OwnG.below (by repeat (first | with_reducible exact O2.out | with_reducible apply OwnG.drewN | with_reducible apply OwnG.drew | with_reducible apply OwnG.alloc)) b)
    have R2 := Lib.hid (RdG.below (by repeat (first | with_reducible exact R2.out | with_reducible apply RdG.drewN | with_reducible apply RdG.drew | with_reducible apply RdG.alloc)) b)
    have Ox2 := Lib.hid (OwnC.below (by repeat (first | with_reducible exact Ox2.out | with_reducible apply OwnC.drewN | with_reducible apply OwnC.drew | with_reducible apply OwnC.alloc)) b)
    have Rx2 := Lib.hid (Rd.below (by repeat (first | with_reducible exact Rx2.out | with_reducible apply Rd.drewN | with_reducible apply Rd.drew | with_reducible apply Rd.alloc)) b)
    have Ox3 := Lib.hid (OwnC.below (by repeat (first | with_reducible exact Ox3.out | with_reducible apply OwnC.drewN | with_reducible apply OwnC.drew | with_reducible apply OwnC.alloc)) b)
    have Rx3 := Lib.hid (Rd.below (by repeat (first | with_reducible exact Rx3.out | with_reducible apply Rd.drewN | with_reducible apply Rd.drew | with_reducible apply Rd.alloc)) b)
    have K0 : Hid (GBox _ (w.heap.size) (⟨27, s, nx, .slice p n c, .slice ps ns cs, .slice pw nw cw⟩)) := Lib.hid (GBox.below (by repeat (first | with_reducible exact K0.out | with_reducible apply GBox.drewN | with_reducible apply GBox.drew | (with_reducible refine GBox.newAt ?_ ?_ <;> first | (simp; done) | rfl) | with_reducible apply GBox.alloc)) b)
    have K6 : Hid (GBox _ (g6) (⟨33, s, nx, .slice p2 n c2, .slice ps2 ns cs2, .slice pw2 nw cw2⟩)) := Lib.hid (GBox.below (by repeat (first | with_reducible exact K6.out | with_reducible apply GBox.drewN | with_reducible apply GBox.drew | (with_reducible refine GBox.newAt ?_ ?_ <;> first | (simp; done) | rfl) | with_reducible apply GBox.alloc)) b)
    try clear k0a k0b k0c k0d k0e k0z
    have k0z := K0.out.lt
    obtain ⟨k0a, k0b, k0c, k0d, k0e⟩ := K0.out.cell
    try clear k6a k6b k6c k6d k6e k6z
    have k6z := K6.out.lt
    obtain ⟨k6a, k6b, k6c, k6d, k6e⟩ := K6.out.cell
    clear b
    go_wp2_with fail
    go_ret
    exact ⟨rfl, by repeat (first | with_reducible exact Below.refl _ _ | with_reducible exact HB.out | with_reducible apply Below.drew | with_reducible apply bdN | with_reducible refine Below.alloc ?_ (by first | exact Nat.le_refl _ | with_reducible exact HB.out.size | omega | (simp; done) | (simp; omega) | (have := HB.out.size; simp at *; omega)) _)⟩

theorem own : ownKnob Try.prog.godebug = none := by kernel_rfl
theorem laidOut : laidOutB Try.prog = true := by kernel_rfl
set_option maxRecDepth 100000 in
set_option maxHeartbeats 1000000 in
theorem lifted (os : Os) (started : os.Started) (H : Type) (enc : TypeId × Value → H) :
    ReturnsInHanded {} Try.checked os 5 .any (Rows.fnExactWorthClaimsSpec.pre6 enc Try.prog Try.f5 Rows.fnExactWorthClaimsRow.domain false) (Rows.fnExactWorthClaimsSpec.post enc Try.prog Try.f5 false true false false) := by
  refine returnsInHanded_of_change (C := Try.checked) own started (by kernel_rfl) Try.func5
    (ChangeSpec.witness6 (enc := enc) (C := Try.checked) false ⟨#[], #[.agg #[.int .i64 0, .int .i64 0, .slice none 0 0, .slice none 0 0, .slice none 0 0], .slice none 0 0, .int .i64 0], []⟩ 8 (by kernel_rfl) (by kernel_rfl) (by kernel_rfl) (by kernel_rfl)) ?_
  intro W base args ds gs before hval0 hW hcnd _
  have hval : ∀ (j : Nat) t v, Try.f5.params[j]? = some t → args[j]? = some v → Value.okWide Try.prog W .any base t v := hval0
  have hW' := hW
  obtain ⟨p, q, hA0, hV, rfl, hfz, hnd⟩ := hW
  have hA : DataW.TrodAll enc Try.prog W 0 (fun _ => true) true Try.f5.params.toList args.toList ds p := hA0
  rw [Try.params5] at hA hval
  have hR := fun (W' : World) (hb : Below W.heap.size W W') => frame.still_all laidOut hb _ _ _ _ (by decide +kernel) hA
  obtain ⟨v0, vs0, d0, ds0, p0, q0, hargs, rfl, hp, h0, r0⟩ := trodAll_cons hA
  obtain ⟨v1, vs1, d1, ds1, p1, q1, rfl, rfl, hp1, h1, r1⟩ := trodAll_cons r0
  obtain ⟨v2, vs2, d2, ds2, p2, q2, rfl, rfl, hp2, h2, r2⟩ := trodAll_cons r1
  obtain ⟨rfl, rfl, hpn⟩ := trodAll_nil r2
  obtain rfl : args = #[v0, v1, v2] := by cases args; simp_all
  obtain ⟨rfl, rfl⟩ := trodVars_none hV
  obtain ⟨s0, x0, b0, n0, c0, l0, bs0, ns0, cs0, sc0, bw0, nw0, cw0, wt0, rfl, w0⟩ := frame.open_game Try.underlying27 rfl rfl rfl rfl rfl rfl Try.underlying24 rfl rfl rfl rfl rfl rfl Try.underlying3 (by kernel_rfl) Try.underlying22 (by kernel_rfl) Try.underlying34 Try.underlying3 (by kernel_rfl) (by kernel_rfl) Try.underlying25 (by kernel_rfl) (by kernel_rfl) (by kernel_rfl) (hval 0 27 v0 rfl rfl) h0
  obtain ⟨b1, n1, c1, l1, rfl, w1⟩ := frame.open_claims Try.underlying28 Try.underlying65 rfl rfl rfl rfl Try.underlying3 (by kernel_rfl) Try.underlying59 (by kernel_rfl) (by kernel_rfl) (hval 1 28 v1 rfl rfl) h1
  obtain ⟨a2, rfl, rfl, -, w2⟩ := open_int Try.underlying3 (hval 2 3 v2 rfl rfl) h2
  clear hA0 hval0
  simp only [List.append_nil] at hW'
  refine (walk s0 x0 b0 n0 c0 l0 bs0 ns0 cs0 sc0 bw0 nw0 cw0 wt0 b1 n1 c1 l1 a2 W w0 w1 w2).mono fun e W' ⟨he, hw⟩ => ?_
  subst he
  exact ⟨_, rfl, _, _, _, [], p, [], hW', trodAll_mk1 (shut_bool Try.underlying4 _), hR W' hw, rfl, hw.frame _, fun h => by cases h⟩

theorem over : Rows.fnExactWorthClaimsRow.holds Try.pinned (OpenSpec.ofChange Rows.fnExactWorthClaimsSpec) :=
  OpenClaim.holds_of_wide 5 Try.f5 rfl rfl rfl rfl rfl rfl rfl ⟨rfl, rfl, rfl, rfl, rfl⟩ rfl rfl rfl rfl rfl (by kernel_rfl) Try.func5 (by kernel_rfl)
    (of_decide_eq_true (by kernel_rfl)) (by unfold Func.isWrapper; first | (rw [if_pos (by decide +kernel)]; kernel_rfl) | (rw [if_neg (by decide +kernel)]; exact ⟨rfl, rfl⟩))
    (fun os started H enc _ => lifted os started H enc)

theorem proved : Rows.FnExactWorthClaimsSaid := over
end Go.Proofs.Ytjpfjgoebdogjaa.lawWorthClaims