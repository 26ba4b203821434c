/- FnExactRankGame: for every Game, valid or not, the law returns true and its arguments read as before. No condition. -/
import Derived.Test.YtjanphcfflahkaaRows
import Derived.Test.YtjanphcfflahkaaEb
import Derived.Test.YtjanphcfflahkaaEe
import Derived.Test.YtjanphcfflahkaaGRankGame0
import Derived.Test.YtjanphcfflahkaaGRankGame1
namespace Go.Proofs.Ytjanphcfflahkaa.lawRankGame
open Go.ChangeShapes Go.WideShapes Go.ChangeAt Go.RowKit
open Go.ChangeMaps (open_string shut_string)
open cards deal reg game
set_option linter.unusedVariables false

set_option maxRecDepth 100000 in
set_option maxHeartbeats 8000000 in
theorem walk (s nx : Int) (p : Option Addr) (n c : Nat) (l : List Cd) (ps : Option Addr) (ns cs : Nat) (sc : List Int) (pw : Option Addr) (nw cw : Nat) (wt : List Int) (w : World) (hw : l.length = n ∧ n ≤ maxLen ∧ Rd w p (flat l) ∧ (∀ x ∈ l, wfc x) ∧ (Lit.int .i64 s).wf = true ∧ (Lit.int .i64 nx).wf = true ∧ sc.length = ns ∧ ns ≤ maxLen ∧ Rd w ps (ints sc) ∧ frame.wfI sc ∧ wt.length = nw ∧ nw ≤ maxLen ∧ Rd w pw (ints wt) ∧ frame.wfI wt) :
    Calls Try.prog 7 #[gval s nx (.slice p n c) (.slice ps ns cs) (.slice pw nw cw)] w fun e w' => e = .returned (.bool true) ∧ Below w.heap.size w w' := by
  obtain ⟨hn, hm, hr, hwf, _, _, hsn, hsm, hsr, _, hwn, hwm, hwr, _⟩ := hw
  have HN := Lib.hid hn
  have HS := Lib.hid hsn
  have HW := Lib.hid hwn
  have HM := Lib.hid hm
  have HMS := Lib.hid hsm
  have HMW := Lib.hid hwm
  have HWf := Lib.hid hwf
  have HR : Hid (RdG w p ps pw l sc wt) := Lib.hid ⟨hr, hsr, hwr⟩
  have HR0 := Lib.hid HR.out
  clear hn hm hr hwf hsn hsm hsr hwn hwm hwr
  have HZ := Lib.hid (fun w => sz_game s nx p ps pw n c ns cs nw cw 1048576 w (by omega) (by omega) HM.out HMS.out HMW.out)
  have hz2 := fun h => szG_yes (n := n) (ns := ns) (nw := nw) h
  obtain ⟨z, hz⟩ : ∃ z, szG n ns nw 1048576 = z := ⟨_, rfl⟩
  rw [hz] at HZ hz2
  clear hz
  by_cases hz : z < 0
  · clear hz2
    go_enter Try.func7, Try.ntmps7
    go_wp2_with fail
    refine ((HZ.out _)).mono ?_
    rintro e w0 ⟨rfl, b⟩
    have Sw0 := Lib.hid b.size
    have HB := Lib.hid (chain0 (w := w) (by repeat (first | with_reducible exact Below.refl _ _ | with_reducible exact HB.out | with_reducible apply Below.drew | with_reducible apply bdN | with_reducible refine Below.alloc ?_ (by first | exact Nat.le_refl _ | with_reducible exact HB.out.size | omega | (simp; done) | (simp; omega) | (have := HB.out.size; simp at *; omega)) _ | with_reducible refine Below.setCell ?_ (by first | exact Nat.le_refl _ | with_reducible exact HB.out.size | omega | (simp; done) | (simp; omega) | (have := HB.out.size; simp at *; omega)) _)) b)
    have K0 : Hid (GBox _ (w.heap.size) (⟨45, s, nx, .slice p n c, .slice ps ns cs, .slice pw nw cw⟩)) := Lib.hid (GBox.below (by repeat (first | with_reducible exact K0.out | with_reducible apply GBox.drewN | with_reducible apply GBox.drew | (with_reducible refine GBox.newAt ?_ ?_ <;> first | (simp; done) | rfl) | with_reducible apply GBox.alloc)) b)
    try clear k0a k0b k0c k0d k0e k0z
    have k0z := K0.out.lt
    obtain ⟨k0a, k0b, k0c, k0d, k0e⟩ := K0.out.cell
    clear b
    go_wp2_with fail
    go_ret
    exact ⟨rfl, by repeat (first | with_reducible exact Below.refl _ _ | with_reducible exact HB.out | with_reducible apply Below.drew | with_reducible apply bdN | with_reducible refine Below.alloc ?_ (by first | exact Nat.le_refl _ | with_reducible exact HB.out.size | omega | (simp; done) | (simp; omega) | (have := HB.out.size; simp at *; omega)) _ | with_reducible refine Below.setCell ?_ (by first | exact Nat.le_refl _ | with_reducible exact HB.out.size | omega | (simp; done) | (simp; omega) | (have := HB.out.size; simp at *; omega)) _)⟩
  · have z1 : 0 ≤ z := by omega
    obtain ⟨zn, zs, zw, zz, zt⟩ := hz2 z1
    clear hz2 hz
    have HL := Lib.hid (rgR_len ⟨s, nx, l, sc, wt⟩)
    have HSp := Lib.hid (fun p ps pw n c ns cs nw cw w hf hr => spec_rg ⟨s, nx, l, sc, wt⟩ p ps pw n c ns cs nw cw w hf hr)
    have HIm := Lib.hid (fun p ps pw n c ns cs nw cw w hf hr => impl_rg ⟨s, nx, l, sc, wt⟩ p ps pw n c ns cs nw cw w hf hr)
    obtain ⟨R, hR⟩ : ∃ R, (rgR (Gm.mk s nx l sc wt)).1 = R := ⟨_, rfl⟩
    obtain ⟨ok, hok⟩ : ∃ ok, (rgR (Gm.mk s nx l sc wt)).2 = ok := ⟨_, rfl⟩
    rw [hR] at HL
    rw [hR, hok] at HSp HIm
    clear hR hok
    obtain ⟨a1, ha1⟩ : ∃ a1, R.length = a1 := ⟨_, rfl⟩
    have HMm := Lib.hid ha1
    rw [ha1] at HL
    have hl1 := HL.out
    clear ha1 HL
    go_enter Try.func7, Try.ntmps7
    go_wp2_with fail
    refine ((HZ.out _)).mono ?_
    rintro e w0 ⟨rfl, b⟩
    have Sw0 : Hid (w.heap.size ≤ w0.heap.size) := Lib.hid (by first | exact b.size | (have h := b.size; simp at h; omega))
    have HB := Lib.hid (chain0 (w := w) (by repeat (first | with_reducible exact Below.refl _ _ | with_reducible exact HB.out | with_reducible apply Below.drew | with_reducible apply bdN | with_reducible refine Below.alloc ?_ (by first | exact Nat.le_refl _ | with_reducible exact HB.out.size | omega | (simp; done) | (simp; omega) | (have := HB.out.size; simp at *; omega)) _ | with_reducible refine Below.setCell ?_ (by first | exact Nat.le_refl _ | with_reducible exact HB.out.size | omega | (simp; done) | (simp; omega) | (have := HB.out.size; simp at *; omega)) _)) b)
    have HR := Lib.hid (RdG.below (by repeat (first | with_reducible exact HR.out | with_reducible apply RdG.drewN | with_reducible apply RdG.drew | with_reducible apply RdG.alloc)) b)
    have K0 : Hid (GBox _ (w.heap.size) (⟨45, s, nx, .slice p n c, .slice ps ns cs, .slice pw nw cw⟩)) := Lib.hid (GBox.below (by repeat (first | with_reducible exact K0.out | with_reducible apply GBox.drewN | with_reducible apply GBox.drew | (with_reducible refine GBox.newAt ?_ ?_ <;> first | (simp; done) | rfl) | with_reducible apply GBox.alloc)) b)
    try clear k0a k0b k0c k0d k0e k0z
    have k0z := K0.out.lt
    obtain ⟨k0a, k0b, k0c, k0d, k0e⟩ := K0.out.cell
    clear b
    have Yw1K0 := Lib.hid K0.out.lt
    go_wp2_with fail
    refine ((to_game s nx l sc wt p ps pw n c ns cs nw cw _ HN.out HS.out HW.out (by omega) (by omega) (by omega) HWf.out HR.out)).mono ?_
    rintro e w1 ⟨p1, c1, ps1, cs1, pw1, cw1, rfl, o1, r1, f1, b⟩
    have F1 := Lib.hid f1
    have Sw1 : Hid (w0.heap.size ≤ w1.heap.size) := Lib.hid (by first | exact b.size | (have h := b.size; simp at h; omega))
    have HB := Lib.hid (chain0 (w := w) (by repeat (first | with_reducible exact Below.refl _ _ | with_reducible exact HB.out | with_reducible apply Below.drew | with_reducible apply bdN | with_reducible refine Below.alloc ?_ (by first | exact Nat.le_refl _ | with_reducible exact HB.out.size | omega | (simp; done) | (simp; omega) | (have := HB.out.size; simp at *; omega)) _ | with_reducible refine Below.setCell ?_ (by first | exact Nat.le_refl _ | with_reducible exact HB.out.size | omega | (simp; done) | (simp; omega) | (have := HB.out.size; simp at *; omega)) _)) b)
    have Zw1 := Lib.hid HB.out.size
    have HR := Lib.hid (RdG.below (by repeat (first | with_reducible exact HR.out | with_reducible apply RdG.drewN | with_reducible apply RdG.drew | with_reducible apply RdG.alloc)) b)
    have K0 : Hid (GBox _ (w.heap.size) (⟨45, s, nx, .slice p n c, .slice ps ns cs, .slice pw nw cw⟩)) := Lib.hid (GBox.below (by repeat (first | with_reducible exact K0.out | with_reducible apply GBox.drewN | with_reducible apply GBox.drew | (with_reducible refine GBox.newAt ?_ ?_ <;> first | (simp; done) | rfl) | with_reducible apply GBox.alloc)) b)
    try clear k0a k0b k0c k0d k0e k0z
    have k0z := K0.out.lt
    obtain ⟨k0a, k0b, k0c, k0d, k0e⟩ := K0.out.cell
    have O1 : Hid (OwnG w1 w0.heap.size w1.heap.size _ _ _ _ _ _) := Lib.hid (OwnG.base o1 (by first | exact Nat.le_refl _ | (simp; done) | (simp; omega)))
    have R1 := Lib.hid r1
    clear b o1 r1 f1
    have Yw2K0 := Lib.hid K0.out.lt
    go_wp2_with fail
    refine ((HSp.out p1 ps1 pw1 n c1 ns cs1 nw cw1 _ F1.out R1.out)).mono ?_
    rintro e w2 ⟨va, rfl, oa, b⟩
    obtain ⟨pa, ca, rfl, hca, ra, _⟩ := oa.form
    rw [HMm.out] at oa hca ⊢
    clear hca
    have Sw2 : Hid (w1.heap.size ≤ w2.heap.size) := Lib.hid (by first | exact b.size | (have h := b.size; simp at h; omega))
    have HB := Lib.hid (chain0 (w := w) (by repeat (first | with_reducible exact Below.refl _ _ | with_reducible exact HB.out | with_reducible apply Below.drew | with_reducible apply bdN | with_reducible refine Below.alloc ?_ (by first | exact Nat.le_refl _ | with_reducible exact HB.out.size | omega | (simp; done) | (simp; omega) | (have := HB.out.size; simp at *; omega)) _ | with_reducible refine Below.setCell ?_ (by first | exact Nat.le_refl _ | with_reducible exact HB.out.size | omega | (simp; done) | (simp; omega) | (have := HB.out.size; simp at *; omega)) _)) b)
    have Zw2 := Lib.hid HB.out.size
    have HR := Lib.hid (RdG.below (by repeat (first | with_reducible exact HR.out | with_reducible apply RdG.drewN | with_reducible apply RdG.drew | with_reducible apply RdG.alloc)) b)
    have O1 := Lib.hid (OwnG.below (by repeat (first | with_reducible exact O1.out | with_reducible apply OwnG.drewN | with_reducible apply OwnG.drew | with_reducible apply OwnG.alloc)) b)
    have R1 := Lib.hid (RdG.below (by repeat (first | with_reducible exact R1.out | with_reducible apply RdG.drewN | with_reducible apply RdG.drew | with_reducible apply RdG.alloc)) b)
    have K0 : Hid (GBox _ (w.heap.size) (⟨45, s, nx, .slice p n c, .slice ps ns cs, .slice pw nw cw⟩)) := Lib.hid (GBox.below (by repeat (first | with_reducible exact K0.out | with_reducible apply GBox.drewN | with_reducible apply GBox.drew | (with_reducible refine GBox.newAt ?_ ?_ <;> first | (simp; done) | rfl) | with_reducible apply GBox.alloc)) b)
    try clear k0a k0b k0c k0d k0e k0z
    have k0z := K0.out.lt
    obtain ⟨k0a, k0b, k0c, k0d, k0e⟩ := K0.out.cell
    have Oa : Hid (OwnS w2 w1.heap.size w2.heap.size _ _) := Lib.hid (OwnS.base (OwnS.of oa) (by first | exact Nat.le_refl _ | (simp; done) | (simp; omega)))
    have Ra := Lib.hid ra
    clear b oa ra
    have Yw3K0 := Lib.hid K0.out.lt
    go_wp2_with fail
    refine ((to_game s nx l sc wt p ps pw n c ns cs nw cw _ HN.out HS.out HW.out (by omega) (by omega) (by omega) HWf.out HR.out)).mono ?_
    rintro e w3 ⟨p2, c2, ps2, cs2, pw2, cw2, rfl, o2, r2, f2, b⟩
    have F2 := Lib.hid f2
    have Sw3 : Hid (w2.heap.size ≤ w3.heap.size) := Lib.hid (by first | exact b.size | (have h := b.size; simp at h; omega))
    have HB := Lib.hid (chain0 (w := w) (by repeat (first | with_reducible exact Below.refl _ _ | with_reducible exact HB.out | with_reducible apply Below.drew | with_reducible apply bdN | with_reducible refine Below.alloc ?_ (by first | exact Nat.le_refl _ | with_reducible exact HB.out.size | omega | (simp; done) | (simp; omega) | (have := HB.out.size; simp at *; omega)) _ | with_reducible refine Below.setCell ?_ (by first | exact Nat.le_refl _ | with_reducible exact HB.out.size | omega | (simp; done) | (simp; omega) | (have := HB.out.size; simp at *; omega)) _)) b)
    have Zw3 := Lib.hid HB.out.size
    have HR := Lib.hid (RdG.below (by repeat (first | with_reducible exact HR.out | with_reducible apply RdG.drewN | with_reducible apply RdG.drew | with_reducible apply RdG.alloc)) b)
    have Oa := Lib.hid (OwnS.below (by repeat (first | with_reducible exact Oa.out | with_reducible apply OwnS.drewN | with_reducible apply OwnS.drew | with_reducible apply OwnS.alloc)) b)
    have Ra := Lib.hid (Rd.below (by repeat (first | with_reducible exact Ra.out | with_reducible apply Rd.drewN | with_reducible apply Rd.drew | with_reducible apply Rd.alloc)) b)
    have K0 : Hid (GBox _ (w.heap.size) (⟨45, s, nx, .slice p n c, .slice ps ns cs, .slice pw nw cw⟩)) := Lib.hid (GBox.below (by repeat (first | with_reducible exact K0.out | with_reducible apply GBox.drewN | with_reducible apply GBox.drew | (with_reducible refine GBox.newAt ?_ ?_ <;> first | (simp; done) | rfl) | with_reducible apply GBox.alloc)) b)
    try clear k0a k0b k0c k0d k0e k0z
    have k0z := K0.out.lt
    obtain ⟨k0a, k0b, k0c, k0d, k0e⟩ := K0.out.cell
    have O2 : Hid (OwnG w3 w2.heap.size w3.heap.size _ _ _ _ _ _) := Lib.hid (OwnG.base o2 (by first | exact Nat.le_refl _ | (simp; done) | (simp; omega)))
    have R2 := Lib.hid r2
    clear b o2 r2 f2
    go_upto_region 7 with fail
    have K6 : Hid (GBox (w3.alloc (Gv.obj (⟨51, s, nx, .slice p2 n c2, .slice ps2 ns cs2, .slice pw2 nw cw2⟩))) w3.heap.size (⟨51, s, nx, .slice p2 n c2, .slice ps2 ns cs2, .slice pw2 nw cw2⟩)) := Lib.hid (GBox.newAt rfl rfl)
    obtain ⟨g6, hg⟩ : ∃ g6, w3.heap.size = g6 := ⟨_, rfl⟩
    have HGg6 := Lib.hid hg
    rw [hg] at K6
    try rw [hg]
    clear hg
    obtain ⟨w3b, ew, b⟩ : ∃ wOPN : World, wOPN = (w3.alloc (Gv.obj (⟨51, s, nx, .slice p2 n c2, .slice ps2 ns cs2, .slice pw2 nw cw2⟩))) ∧ Below ((w3.alloc (Gv.obj (⟨51, s, nx, .slice p2 n c2, .slice ps2 ns cs2, .slice pw2 nw cw2⟩)))).heap.size ((w3.alloc (Gv.obj (⟨51, s, nx, .slice p2 n c2, .slice ps2 ns cs2, .slice pw2 nw cw2⟩)))) wOPN := ⟨_, rfl, Below.refl _ _⟩
    rw [← ew]
    clear ew
    have Sw3b : Hid (w3.heap.size ≤ w3b.heap.size) := Lib.hid (by first | exact b.size | (have h := b.size; simp at h; omega))
    have HB := Lib.hid (chain0 (w := w) (by repeat (first | with_reducible exact Below.refl _ _ | with_reducible exact HB.out | with_reducible apply Below.drew | with_reducible apply bdN | with_reducible refine Below.alloc ?_ (by first | exact Nat.le_refl _ | with_reducible exact HB.out.size | omega | (simp; done) | (simp; omega) | (have := HB.out.size; simp at *; omega)) _ | with_reducible refine Below.setCell ?_ (by first | exact Nat.le_refl _ | with_reducible exact HB.out.size | omega | (simp; done) | (simp; omega) | (have := HB.out.size; simp at *; omega)) _)) b)
    have HR := Lib.hid (RdG.below (by repeat (first | with_reducible exact HR.out | with_reducible apply RdG.drewN | with_reducible apply RdG.drew | with_reducible apply RdG.alloc)) b)
    have Oa := Lib.hid (OwnS.below (by repeat (first | with_reducible exact Oa.out | with_reducible apply OwnS.drewN | with_reducible apply OwnS.drew | with_reducible apply OwnS.alloc)) b)
    have Ra := Lib.hid (Rd.below (by repeat (first | with_reducible exact Ra.out | with_reducible apply Rd.drewN | with_reducible apply Rd.drew | with_reducible apply Rd.alloc)) b)
    have O2 := Lib.hid (OwnG.below (by repeat (first | with_reducible exact O2.out | with_reducible apply OwnG.drewN | with_reducible apply OwnG.drew | with_reducible apply OwnG.alloc)) b)
    have R2 := Lib.hid (RdG.below (by repeat (first | with_reducible exact R2.out | with_reducible apply RdG.drewN | with_reducible apply RdG.drew | with_reducible apply RdG.alloc)) b)
    have K0 : Hid (GBox _ (w.heap.size) (⟨45, s, nx, .slice p n c, .slice ps ns cs, .slice pw nw cw⟩)) := Lib.hid (GBox.below (by repeat (first | with_reducible exact K0.out | with_reducible apply GBox.drewN | with_reducible apply GBox.drew | (with_reducible refine GBox.newAt ?_ ?_ <;> first | (simp; done) | rfl) | with_reducible apply GBox.alloc)) b)
    have K6 : Hid (GBox _ (g6) (⟨51, s, nx, .slice p2 n c2, .slice ps2 ns cs2, .slice pw2 nw cw2⟩)) := Lib.hid (GBox.below (by repeat (first | with_reducible exact K6.out | with_reducible apply GBox.drewN | with_reducible apply GBox.drew | (with_reducible refine GBox.newAt ?_ ?_ <;> first | (simp; done) | rfl) | with_reducible apply GBox.alloc)) b)
    try clear k0a k0b k0c k0d k0e k0z
    have k0z := K0.out.lt
    obtain ⟨k0a, k0b, k0c, k0d, k0e⟩ := K0.out.cell
    try clear k6a k6b k6c k6d k6e k6z
    have k6z := K6.out.lt
    obtain ⟨k6a, k6b, k6c, k6d, k6e⟩ := K6.out.cell
    clear b
    have Gg6 := Lib.hid K6.out.lt
    have Yw4K0 := Lib.hid K0.out.lt
    have Yw4K6 := Lib.hid K6.out.lt
    go_wp2_with fail
    refine ((HIm.out p2 ps2 pw2 n c2 ns cs2 nw cw2 _ F2.out R2.out)).mono ?_
    rintro e w4 ⟨vb, rfl, ob, b⟩
    obtain ⟨pb, cb, rfl, hcb, rb, _⟩ := ob.form
    rw [HMm.out] at ob hcb ⊢
    clear hcb
    have Sw4 : Hid (w3b.heap.size ≤ w4.heap.size) := Lib.hid (by first | exact b.size | (have h := b.size; simp at h; omega))
    have HB := Lib.hid (chain0 (w := w) (by repeat (first | with_reducible exact Below.refl _ _ | with_reducible exact HB.out | with_reducible apply Below.drew | with_reducible apply bdN | with_reducible refine Below.alloc ?_ (by first | exact Nat.le_refl _ | with_reducible exact HB.out.size | omega | (simp; done) | (simp; omega) | (have := HB.out.size; simp at *; omega)) _ | with_reducible refine Below.setCell ?_ (by first | exact Nat.le_refl _ | with_reducible exact HB.out.size | omega | (simp; done) | (simp; omega) | (have := HB.out.size; simp at *; omega)) _)) b)
    have Zw4 := Lib.hid HB.out.size
    have HR := Lib.hid (RdG.below (by repeat (first | with_reducible exact HR.out | with_reducible apply RdG.drewN | with_reducible apply RdG.drew | with_reducible apply RdG.alloc)) b)
    have Oa := Lib.hid (OwnS.below (by repeat (first | with_reducible exact Oa.out | with_reducible apply OwnS.drewN | with_reducible apply OwnS.drew | with_reducible apply OwnS.alloc)) b)
    have Ra := Lib.hid (Rd.below (by repeat (first | with_reducible exact Ra.out | with_reducible apply Rd.drewN | with_reducible apply Rd.drew | with_reducible apply Rd.alloc)) b)
    have O2 := Lib.hid (OwnG.below (by repeat (first | with_reducible exact O2.out | with_reducible apply OwnG.drewN | with_reducible apply OwnG.drew | with_reducible apply OwnG.alloc)) b)
    have R2 := Lib.hid (RdG.below (by repeat (first | with_reducible exact R2.out | with_reducible apply RdG.drewN | with_reducible apply RdG.drew | with_reducible apply RdG.alloc)) b)
    have K0 : Hid (GBox _ (w.heap.size) (⟨45, s, nx, .slice p n c, .slice ps ns cs, .slice pw nw cw⟩)) := Lib.hid (GBox.below (by repeat (first | with_reducible exact K0.out | with_reducible apply GBox.drewN | with_reducible apply GBox.drew | (with_reducible refine GBox.newAt ?_ ?_ <;> first | (simp; done) | rfl) | with_reducible apply GBox.alloc)) b)
    have K6 : Hid (GBox _ (g6) (⟨51, s, nx, .slice p2 n c2, .slice ps2 ns cs2, .slice pw2 nw cw2⟩)) := Lib.hid (GBox.below (by repeat (first | with_reducible exact K6.out | with_reducible apply GBox.drewN | with_reducible apply GBox.drew | (with_reducible refine GBox.newAt ?_ ?_ <;> first | (simp; done) | rfl) | with_reducible apply GBox.alloc)) b)
    try clear k0a k0b k0c k0d k0e k0z
    have k0z := K0.out.lt
    obtain ⟨k0a, k0b, k0c, k0d, k0e⟩ := K0.out.cell
    try clear k6a k6b k6c k6d k6e k6z
    have k6z := K6.out.lt
    obtain ⟨k6a, k6b, k6c, k6d, k6e⟩ := K6.out.cell
    have Ob : Hid (OwnS w4 w3b.heap.size w4.heap.size _ _) := Lib.hid (OwnS.base (OwnS.of ob) (by first | exact Nat.le_refl _ | (simp; done) | (simp; omega)))
    have Rb := Lib.hid rb
    clear b ob rb
    go_wp2_with fail
    refine ((eq_ints R pb pa a1 cb ca _ HMm.out (by omega) Rb.out Ra.out)).mono ?_
    rintro e w5 ⟨rfl, b⟩
    have Sw5 : Hid (w4.heap.size ≤ w5.heap.size) := Lib.hid (by first | exact b.size | (have h := b.size; simp at h; omega))
    have HB := Lib.hid (chain0 (w := w) (by repeat (first | with_reducible exact Below.refl _ _ | with_reducible exact HB.out | with_reducible apply Below.drew | with_reducible apply bdN | with_reducible refine Below.alloc ?_ (by first | exact Nat.le_refl _ | with_reducible exact HB.out.size | omega | (simp; done) | (simp; omega) | (have := HB.out.size; simp at *; omega)) _ | with_reducible refine Below.setCell ?_ (by first | exact Nat.le_refl _ | with_reducible exact HB.out.size | omega | (simp; done) | (simp; omega) | (have := HB.out.size; simp at *; omega)) _)) b)
    have HR := Lib.hid (RdG.below (by repeat (first | with_reducible exact HR.out | with_reducible apply RdG.drewN | with_reducible apply RdG.drew | with_reducible apply RdG.alloc)) b)
    have Oa := Lib.hid (OwnS.below (by repeat (first | with_reducible exact Oa.out | with_reducible apply OwnS.drewN | with_reducible apply OwnS.drew | with_reducible apply OwnS.alloc)) b)
    have Ra := Lib.hid (Rd.below (by repeat (first | with_reducible exact Ra.out | with_reducible apply Rd.drewN | with_reducible apply Rd.drew | with_reducible apply Rd.alloc)) b)
    have O2 := Lib.hid (OwnG.below (by repeat (first | with_reducible exact O2.out | with_reducible apply OwnG.drewN | with_reducible apply OwnG.drew | with_reducible apply OwnG.alloc)) b)
    have R2 := Lib.hid (RdG.below (by repeat (first | with_reducible exact R2.out | with_reducible apply RdG.drewN | with_reducible apply RdG.drew | with_reducible apply RdG.alloc)) b)
    have Ob := Lib.hid (OwnS.below (by repeat (first | with_reducible exact Ob.out | with_reducible apply OwnS.drewN | with_reducible apply OwnS.drew | with_reducible apply OwnS.alloc)) b)
    have Rb := Lib.hid (Rd.below (by repeat (first | with_reducible exact Rb.out | with_reducible apply Rd.drewN | with_reducible apply Rd.drew | with_reducible apply Rd.alloc)) b)
    have K0 : Hid (GBox _ (w.heap.size) (⟨45, s, nx, .slice p n c, .slice ps ns cs, .slice pw nw cw⟩)) := Lib.hid (GBox.below (by repeat (first | with_reducible exact K0.out | with_reducible apply GBox.drewN | with_reducible apply GBox.drew | (with_reducible refine GBox.newAt ?_ ?_ <;> first | (simp; done) | rfl) | with_reducible apply GBox.alloc)) b)
    have K6 : Hid (GBox _ (g6) (⟨51, s, nx, .slice p2 n c2, .slice ps2 ns cs2, .slice pw2 nw cw2⟩)) := Lib.hid (GBox.below (by repeat (first | with_reducible exact K6.out | with_reducible apply GBox.drewN | with_reducible apply GBox.drew | (with_reducible refine GBox.newAt ?_ ?_ <;> first | (simp; done) | rfl) | with_reducible apply GBox.alloc)) b)
    try clear k0a k0b k0c k0d k0e k0z
    have k0z := K0.out.lt
    obtain ⟨k0a, k0b, k0c, k0d, k0e⟩ := K0.out.cell
    try clear k6a k6b k6c k6d k6e k6z
    have k6z := K6.out.lt
    obtain ⟨k6a, k6b, k6c, k6d, k6e⟩ := K6.out.cell
    clear b
    go_upto_region 10 with fail
    refine region_BI [(true, 0), (true, 1), (false, 2), (false, 3), (true, 4)] (by kernel_rfl) rfl (by kernel_rfl) ?_
    refine chain_load 41 rfl rfl rfl 51 _ rfl rfl #[.int .i64 s, .int .i64 nx, .slice p2 n c2, .slice ps2 ns cs2, .slice pw2 nw cw2] (fun w h => GBox.below K6.out h) Try.underlying51 rfl (by kernel_rfl) ?_
    refine chain_load 42 rfl rfl rfl 45 _ rfl rfl #[.int .i64 s, .int .i64 nx, .slice p n c, .slice ps ns cs, .slice pw nw cw] (fun w h => GBox.below K0.out h) Try.underlying45 rfl (by kernel_rfl) ?_
    refine chain_callE 43 rfl rfl rfl (fun w => by kernel_rfl) (fun wy hy => (to_game s nx l sc wt p ps pw n c ns cs nw cw wy HN.out HS.out HW.out (by omega) (by omega) (by omega) HWf.out (RdG.below HR.out hy)).mono ?_)
    rintro e wz ⟨p3, c3, ps3, cs3, pw3, cw3, rfl, o3, r3, f3, b⟩
    refine ⟨_, rfl, b, fun w' => BI w5 w' ∧ RdG w' p3 ps3 pw3 l sc wt, ⟨fun _ h => h.1, fun _ h => h.1.size, fun _ h => ⟨Below.alloc h.1 h.1.size _, RdG.alloc h.2 _⟩⟩, ⟨BI.next hy b, r3⟩, ?_⟩
    clear b r3 o3 f3 hy
    refine chain_callE 44 rfl rfl rfl (fun w => by kernel_rfl) (fun wy hy => (eq_game s nx l sc wt p2 ps2 pw2 p3 ps3 pw3 n c2 c3 ns cs2 cs3 nw cw2 cw3 wy HN.out HS.out HW.out (by omega) (by omega) (by omega) (RdG.below R2.out hy.1) hy.2).mono ?_)
    rintro e wz ⟨rfl, b⟩
    refine ⟨_, rfl, b, fun w' => BI w5 w', ⟨fun _ h => h, fun _ h => h.size, fun _ h => Below.alloc h h.size _⟩, BI.next hy.1 b, ?_⟩
    clear b hy
    refine chain_pure 45 (v := .bool false) rfl rfl rfl (fun w => by kernel_rfl) ?_
    clear wy wz
    intro w7 hI
    have b : Below w5.heap.size w5 w7 := hI
    clear hI
    have Sw7 : Hid (w5.heap.size ≤ w7.heap.size) := Lib.hid (by first | exact b.size | (have h := b.size; simp at h; omega))
    have HB := Lib.hid (chain0 (w := w) (by repeat (first | with_reducible exact Below.refl _ _ | with_reducible exact HB.out | with_reducible apply Below.drew | with_reducible apply bdN | with_reducible refine Below.alloc ?_ (by first | exact Nat.le_refl _ | with_reducible exact HB.out.size | omega | (simp; done) | (simp; omega) | (have := HB.out.size; simp at *; omega)) _ | with_reducible refine Below.setCell ?_ (by first | exact Nat.le_refl _ | with_reducible exact HB.out.size | omega | (simp; done) | (simp; omega) | (have := HB.out.size; simp at *; omega)) _)) b)
    have HR := Lib.hid (RdG.below (by repeat (first | with_reducible exact HR.out | with_reducible apply RdG.drewN | with_reducible apply RdG.drew | with_reducible apply RdG.alloc)) b)
    have Oa := Lib.hid (OwnS.below (by repeat (first | with_reducible exact Oa.out | with_reducible apply OwnS.drewN | with_reducible apply OwnS.drew | with_reducible apply OwnS.alloc)) b)
    have Ra := Lib.hid (Rd.below (by repeat (first | with_reducible exact Ra.out | with_reducible apply Rd.drewN | with_reducible apply Rd.drew | with_reducible apply Rd.alloc)) b)
    have O2 := Lib.hid (OwnG.below (by repeat (first | with_reducible exact O2.out | with_reducible apply OwnG.drewN | with_reducible apply OwnG.drew | with_reducible apply OwnG.alloc)) b)
    have R2 := Lib.hid (RdG.below (by repeat (first | with_reducible exact R2.out | with_reducible apply RdG.drewN | with_reducible apply RdG.drew | with_reducible apply RdG.alloc)) b)
    have Ob := Lib.hid (OwnS.below (by repeat (first | with_reducible exact Ob.out | with_reducible apply OwnS.drewN | with_reducible apply OwnS.drew | with_reducible apply OwnS.alloc)) b)
    have Rb := Lib.hid (Rd.below (by repeat (first | with_reducible exact Rb.out | with_reducible apply Rd.drewN | with_reducible apply Rd.drew | with_reducible apply Rd.alloc)) b)
    have K0 : Hid (GBox _ (w.heap.size) (⟨45, s, nx, .slice p n c, .slice ps ns cs, .slice pw nw cw⟩)) := Lib.hid (GBox.below (by repeat (first | with_reducible exact K0.out | with_reducible apply GBox.drewN | with_reducible apply GBox.drew | (with_reducible refine GBox.newAt ?_ ?_ <;> first | (simp; done) | rfl) | with_reducible apply GBox.alloc)) b)
    have K6 : Hid (GBox _ (g6) (⟨51, s, nx, .slice p2 n c2, .slice ps2 ns cs2, .slice pw2 nw cw2⟩)) := Lib.hid (GBox.below (by repeat (first | with_reducible exact K6.out | with_reducible apply GBox.drewN | with_reducible apply GBox.drew | (with_reducible refine GBox.newAt ?_ ?_ <;> first | (simp; done) | rfl) | with_reducible apply GBox.alloc)) b)
    try clear k0a k0b k0c k0d k0e k0z
    have k0z := K0.out.lt
    obtain ⟨k0a, k0b, k0c, k0d, k0e⟩ := K0.out.cell
    try clear k6a k6b k6c k6d k6e k6z
    have k6z := K6.out.lt
    obtain ⟨k6a, k6b, k6c, k6d, k6e⟩ := K6.out.cell
    clear b
    go_wp2_with fail
    refine ((mark_game s nx l sc wt (.slice p2 n c2) (.slice ps2 ns cs2) (.slice pw2 nw cw2) _ _ 1 n ns nw _ HN.out HS.out HW.out (by omega) (by have h0 := Sw0.out; have h1 := Sw0.out; have h2 := Yw1K0.out; have h3 := Sw1.out; have h4 := Zw1.out; have h5 := Yw2K0.out; have h6 := Sw2.out; have h7 := Zw2.out; have h8 := Yw3K0.out; have h9 := Sw3.out; have h10 := Zw3.out; have h11 := HGg6.out; have h12 := Sw3b.out; have h13 := Gg6.out; have h14 := Yw4K0.out; have h15 := Yw4K6.out; have h16 := Sw4.out; have h17 := Zw4.out; have h18 := Sw5.out; have h19 := Sw7.out; first | omega | (show _ ≤ w7.heap.size; omega) | (simp at *; omega)) (by have h0 := Sw0.out; have h1 := Sw0.out; have h2 := Yw1K0.out; have h3 := Sw1.out; have h4 := Zw1.out; have h5 := Yw2K0.out; have h6 := Sw2.out; have h7 := Zw2.out; have h8 := Yw3K0.out; have h9 := Sw3.out; have h10 := Zw3.out; have h11 := HGg6.out; have h12 := Sw3b.out; have h13 := Gg6.out; have h14 := Yw4K0.out; have h15 := Yw4K6.out; have h16 := Sw4.out; have h17 := Zw4.out; have h18 := Sw5.out; have h19 := Sw7.out; first | omega | (show _ ≤ w7.heap.size; omega) | (simp at *; omega)) O2.out)).mono ?_
    rintro e w8 ⟨rfl, oM, gM⟩
    have Sw8 : Hid (w7.heap.size ≤ w8.heap.size) := Lib.hid gM.size
    have HB := Lib.hid (game.Below.out HB.out gM HB.out.size (by have h0 := Sw0.out; have h1 := Sw0.out; have h2 := Yw1K0.out; have h3 := Sw1.out; have h4 := Zw1.out; have h5 := Yw2K0.out; have h6 := Sw2.out; have h7 := Zw2.out; have h8 := Yw3K0.out; have h9 := Sw3.out; have h10 := Zw3.out; have h11 := HGg6.out; have h12 := Sw3b.out; have h13 := Gg6.out; have h14 := Yw4K0.out; have h15 := Yw4K6.out; have h16 := Sw4.out; have h17 := Zw4.out; have h18 := Sw5.out; have h19 := Sw7.out; first | omega | (simp at *; omega)))
    have HR := Lib.hid (RdG.below HR0.out HB.out)
    have Oa := Lib.hid (OwnS.out Oa.out gM (by have h0 := Sw0.out; have h1 := Sw0.out; have h2 := Yw1K0.out; have h3 := Sw1.out; have h4 := Zw1.out; have h5 := Yw2K0.out; have h6 := Sw2.out; have h7 := Zw2.out; have h8 := Yw3K0.out; have h9 := Sw3.out; have h10 := Zw3.out; have h11 := HGg6.out; have h12 := Sw3b.out; have h13 := Gg6.out; have h14 := Yw4K0.out; have h15 := Yw4K6.out; have h16 := Sw4.out; have h17 := Zw4.out; have h18 := Sw5.out; have h19 := Sw7.out; first | omega | (simp at *; omega)))
    have Ra := Lib.hid (OwnS.rd Oa.out)
    have Ob := Lib.hid (OwnS.out Ob.out gM (by have h0 := Sw0.out; have h1 := Sw0.out; have h2 := Yw1K0.out; have h3 := Sw1.out; have h4 := Zw1.out; have h5 := Yw2K0.out; have h6 := Sw2.out; have h7 := Zw2.out; have h8 := Yw3K0.out; have h9 := Sw3.out; have h10 := Zw3.out; have h11 := HGg6.out; have h12 := Sw3b.out; have h13 := Gg6.out; have h14 := Yw4K0.out; have h15 := Yw4K6.out; have h16 := Sw4.out; have h17 := Zw4.out; have h18 := Sw5.out; have h19 := Sw7.out; first | omega | (simp at *; omega)))
    have Rb := Lib.hid (OwnS.rd Ob.out)
    have O2 := Lib.hid oM
    have K0 : Hid (GBox _ (w.heap.size) (⟨45, s, nx, .slice p n c, .slice ps ns cs, .slice pw nw cw⟩)) := Lib.hid (GBox.out K0.out gM (by have h0 := Sw0.out; have h1 := Sw0.out; have h2 := Yw1K0.out; have h3 := Sw1.out; have h4 := Zw1.out; have h5 := Yw2K0.out; have h6 := Sw2.out; have h7 := Zw2.out; have h8 := Yw3K0.out; have h9 := Sw3.out; have h10 := Zw3.out; have h11 := HGg6.out; have h12 := Sw3b.out; have h13 := Gg6.out; have h14 := Yw4K0.out; have h15 := Yw4K6.out; have h16 := Sw4.out; have h17 := Zw4.out; have h18 := Sw5.out; have h19 := Sw7.out; first | omega | (simp at *; omega)))
    try clear k0a k0b k0c k0d k0e k0z
    have k0z := K0.out.lt
    obtain ⟨k0a, k0b, k0c, k0d, k0e⟩ := K0.out.cell
    have K6 : Hid (GBox _ (g6) (⟨51, s, nx, .slice p2 n c2, .slice ps2 ns cs2, .slice pw2 nw cw2⟩)) := Lib.hid (GBox.out K6.out gM (by have h0 := Sw0.out; have h1 := Sw0.out; have h2 := Yw1K0.out; have h3 := Sw1.out; have h4 := Zw1.out; have h5 := Yw2K0.out; have h6 := Sw2.out; have h7 := Zw2.out; have h8 := Yw3K0.out; have h9 := Sw3.out; have h10 := Zw3.out; have h11 := HGg6.out; have h12 := Sw3b.out; have h13 := Gg6.out; have h14 := Yw4K0.out; have h15 := Yw4K6.out; have h16 := Sw4.out; have h17 := Zw4.out; have h18 := Sw5.out; have h19 := Sw7.out; first | omega | (simp at *; omega)))
    try clear k6a k6b k6c k6d k6e k6z
    have k6z := K6.out.lt
    obtain ⟨k6a, k6b, k6c, k6d, k6e⟩ := K6.out.cell
    clear oM gM
    go_wp2_with fail
    refine ((eq_ints R pb pa a1 cb ca _ HMm.out (by omega) Rb.out Ra.out)).mono ?_
    rintro e w9 ⟨rfl, b⟩
    have Sw9 : Hid (w8.heap.size ≤ w9.heap.size) := Lib.hid (by first | exact b.size | (have h := b.size; simp at h; omega))
    have HB := Lib.hid (chain0 (w := w) (by repeat (first | with_reducible exact Below.refl _ _ | with_reducible exact HB.out | with_reducible apply Below.drew | with_reducible apply bdN | with_reducible refine Below.alloc ?_ (by first | exact Nat.le_refl _ | with_reducible exact HB.out.size | omega | (simp; done) | (simp; omega) | (have := HB.out.size; simp at *; omega)) _ | with_reducible refine Below.setCell ?_ (by first | exact Nat.le_refl _ | with_reducible exact HB.out.size | omega | (simp; done) | (simp; omega) | (have := HB.out.size; simp at *; omega)) _)) b)
    have HR := Lib.hid (RdG.below (by repeat (first | with_reducible exact HR.out | with_reducible apply RdG.drewN | with_reducible apply RdG.drew | with_reducible apply RdG.alloc)) b)
    have Oa := Lib.hid (OwnS.below (by repeat (first | with_reducible exact Oa.out | with_reducible apply OwnS.drewN | with_reducible apply OwnS.drew | with_reducible apply OwnS.alloc)) b)
    have Ra := Lib.hid (Rd.below (by repeat (first | with_reducible exact Ra.out | with_reducible apply Rd.drewN | with_reducible apply Rd.drew | with_reducible apply Rd.alloc)) b)
    have O2 := Lib.hid (OwnG.below (by repeat (first | with_reducible exact O2.out | with_reducible apply OwnG.drewN | with_reducible apply OwnG.drew | with_reducible apply OwnG.alloc)) b)
    have Ob := Lib.hid (OwnS.below (by repeat (first | with_reducible exact Ob.out | with_reducible apply OwnS.drewN | with_reducible apply OwnS.drew | with_reducible apply OwnS.alloc)) b)
    have Rb := Lib.hid (Rd.below (by repeat (first | with_reducible exact Rb.out | with_reducible apply Rd.drewN | with_reducible apply Rd.drew | with_reducible apply Rd.alloc)) b)
    have K0 : Hid (GBox _ (w.heap.size) (⟨45, s, nx, .slice p n c, .slice ps ns cs, .slice pw nw cw⟩)) := Lib.hid (GBox.below (by repeat (first | with_reducible exact K0.out | with_reducible apply GBox.drewN | with_reducible apply GBox.drew | (with_reducible refine GBox.newAt ?_ ?_ <;> first | (simp; done) | rfl) | with_reducible apply GBox.alloc)) b)
    have K6 : Hid (GBox _ (g6) (⟨51, s, nx, .slice p2 n c2, .slice ps2 ns cs2, .slice pw2 nw cw2⟩)) := Lib.hid (GBox.below (by repeat (first | with_reducible exact K6.out | with_reducible apply GBox.drewN | with_reducible apply GBox.drew | (with_reducible refine GBox.newAt ?_ ?_ <;> first | (simp; done) | rfl) | with_reducible apply GBox.alloc)) b)
    try clear k0a k0b k0c k0d k0e k0z
    have k0z := K0.out.lt
    obtain ⟨k0a, k0b, k0c, k0d, k0e⟩ := K0.out.cell
    try clear k6a k6b k6c k6d k6e k6z
    have k6z := K6.out.lt
    obtain ⟨k6a, k6b, k6c, k6d, k6e⟩ := K6.out.cell
    clear b
    go_wp2_with fail
    refine ((mark_intsS R (.slice pb a1 cb) _ _ 1 a1 _ HMm.out (by omega) (by have h0 := Sw0.out; have h1 := Sw0.out; have h2 := Yw1K0.out; have h3 := Sw1.out; have h4 := Zw1.out; have h5 := Yw2K0.out; have h6 := Sw2.out; have h7 := Zw2.out; have h8 := Yw3K0.out; have h9 := Sw3.out; have h10 := Zw3.out; have h11 := HGg6.out; have h12 := Sw3b.out; have h13 := Gg6.out; have h14 := Yw4K0.out; have h15 := Yw4K6.out; have h16 := Sw4.out; have h17 := Zw4.out; have h18 := Sw5.out; have h19 := Sw7.out; have h20 := Sw8.out; have h21 := Sw9.out; first | omega | (show _ ≤ w9.heap.size; omega) | (simp at *; omega)) (by have h0 := Sw0.out; have h1 := Sw0.out; have h2 := Yw1K0.out; have h3 := Sw1.out; have h4 := Zw1.out; have h5 := Yw2K0.out; have h6 := Sw2.out; have h7 := Zw2.out; have h8 := Yw3K0.out; have h9 := Sw3.out; have h10 := Zw3.out; have h11 := HGg6.out; have h12 := Sw3b.out; have h13 := Gg6.out; have h14 := Yw4K0.out; have h15 := Yw4K6.out; have h16 := Sw4.out; have h17 := Zw4.out; have h18 := Sw5.out; have h19 := Sw7.out; have h20 := Sw8.out; have h21 := Sw9.out; first | omega | (show _ ≤ w9.heap.size; omega) | (simp at *; omega)) Ob.out)).mono ?_
    rintro e w10 ⟨rfl, oM, gM⟩
    have Sw10 : Hid (w9.heap.size ≤ w10.heap.size) := Lib.hid gM.size
    have HB := Lib.hid (game.Below.out HB.out gM HB.out.size (by have h0 := Sw0.out; have h1 := Sw0.out; have h2 := Yw1K0.out; have h3 := Sw1.out; have h4 := Zw1.out; have h5 := Yw2K0.out; have h6 := Sw2.out; have h7 := Zw2.out; have h8 := Yw3K0.out; have h9 := Sw3.out; have h10 := Zw3.out; have h11 := HGg6.out; have h12 := Sw3b.out; have h13 := Gg6.out; have h14 := Yw4K0.out; have h15 := Yw4K6.out; have h16 := Sw4.out; have h17 := Zw4.out; have h18 := Sw5.out; have h19 := Sw7.out; have h20 := Sw8.out; have h21 := Sw9.out; first | omega | (simp at *; omega)))
    have HR := Lib.hid (RdG.below HR0.out HB.out)
    have Oa := Lib.hid (OwnS.out Oa.out gM (by have h0 := Sw0.out; have h1 := Sw0.out; have h2 := Yw1K0.out; have h3 := Sw1.out; have h4 := Zw1.out; have h5 := Yw2K0.out; have h6 := Sw2.out; have h7 := Zw2.out; have h8 := Yw3K0.out; have h9 := Sw3.out; have h10 := Zw3.out; have h11 := HGg6.out; have h12 := Sw3b.out; have h13 := Gg6.out; have h14 := Yw4K0.out; have h15 := Yw4K6.out; have h16 := Sw4.out; have h17 := Zw4.out; have h18 := Sw5.out; have h19 := Sw7.out; have h20 := Sw8.out; have h21 := Sw9.out; first | omega | (simp at *; omega)))
    have Ra := Lib.hid (OwnS.rd Oa.out)
    have Ob := Lib.hid oM
    have K0 : Hid (GBox _ (w.heap.size) (⟨45, s, nx, .slice p n c, .slice ps ns cs, .slice pw nw cw⟩)) := Lib.hid (GBox.out K0.out gM (by have h0 := Sw0.out; have h1 := Sw0.out; have h2 := Yw1K0.out; have h3 := Sw1.out; have h4 := Zw1.out; have h5 := Yw2K0.out; have h6 := Sw2.out; have h7 := Zw2.out; have h8 := Yw3K0.out; have h9 := Sw3.out; have h10 := Zw3.out; have h11 := HGg6.out; have h12 := Sw3b.out; have h13 := Gg6.out; have h14 := Yw4K0.out; have h15 := Yw4K6.out; have h16 := Sw4.out; have h17 := Zw4.out; have h18 := Sw5.out; have h19 := Sw7.out; have h20 := Sw8.out; have h21 := Sw9.out; first | omega | (simp at *; omega)))
    try clear k0a k0b k0c k0d k0e k0z
    have k0z := K0.out.lt
    obtain ⟨k0a, k0b, k0c, k0d, k0e⟩ := K0.out.cell
    clear oM gM
    go_wp2_with fail
    refine ((held_ints (.slice pb a1 cb) _ 1 a1 _ (by omega) Ob.out.o)).mono ?_
    rintro e w11 ⟨rfl, b⟩
    have Sw11 : Hid (w10.heap.size ≤ w11.heap.size) := Lib.hid (by first | exact b.size | (have h := b.size; simp at h; omega))
    have HB := Lib.hid (chain0 (w := w) (by repeat (first | with_reducible exact Below.refl _ _ | with_reducible exact HB.out | with_reducible apply Below.drew | with_reducible apply bdN | with_reducible refine Below.alloc ?_ (by first | exact Nat.le_refl _ | with_reducible exact HB.out.size | omega | (simp; done) | (simp; omega) | (have := HB.out.size; simp at *; omega)) _ | with_reducible refine Below.setCell ?_ (by first | exact Nat.le_refl _ | with_reducible exact HB.out.size | omega | (simp; done) | (simp; omega) | (have := HB.out.size; simp at *; omega)) _)) b)
    have HR := Lib.hid (RdG.below (by repeat (first | with_reducible exact HR.out | with_reducible apply RdG.drewN | with_reducible apply RdG.drew | with_reducible apply RdG.alloc)) b)
    have Oa := Lib.hid (OwnS.below (by repeat (first | with_reducible exact Oa.out | with_reducible apply OwnS.drewN | with_reducible apply OwnS.drew | with_reducible apply OwnS.alloc)) b)
    have Ra := Lib.hid (Rd.below (by repeat (first | with_reducible exact Ra.out | with_reducible apply Rd.drewN | with_reducible apply Rd.drew | with_reducible apply Rd.alloc)) b)
    have Ob := Lib.hid (OwnS.below (by repeat (first | with_reducible exact Ob.out | with_reducible apply OwnS.drewN | with_reducible apply OwnS.drew | with_reducible apply OwnS.alloc)) b)
    have K0 : Hid (GBox _ (w.heap.size) (⟨45, s, nx, .slice p n c, .slice ps ns cs, .slice pw nw cw⟩)) := Lib.hid (GBox.below (by repeat (first | with_reducible exact K0.out | with_reducible apply GBox.drewN | with_reducible apply GBox.drew | (with_reducible refine GBox.newAt ?_ ?_ <;> first | (simp; done) | rfl) | with_reducible apply GBox.alloc)) b)
    try clear k0a k0b k0c k0d k0e k0z
    have k0z := K0.out.lt
    obtain ⟨k0a, k0b, k0c, k0d, k0e⟩ := K0.out.cell
    clear b
    have Yw12K0 := Lib.hid K0.out.lt
    go_wp2_with fail
    refine ((to_game s nx l sc wt p ps pw n c ns cs nw cw _ HN.out HS.out HW.out (by omega) (by omega) (by omega) HWf.out HR.out)).mono ?_
    rintro e w12 ⟨p4, c4, ps4, cs4, pw4, cw4, rfl, o4, r4, f4, b⟩
    have F4 := Lib.hid f4
    have Sw12 : Hid (w11.heap.size ≤ w12.heap.size) := Lib.hid (by first | exact b.size | (have h := b.size; simp at h; omega))
    have HB := Lib.hid (chain0 (w := w) (by repeat (first | with_reducible exact Below.refl _ _ | with_reducible exact HB.out | with_reducible apply Below.drew | with_reducible apply bdN | with_reducible refine Below.alloc ?_ (by first | exact Nat.le_refl _ | with_reducible exact HB.out.size | omega | (simp; done) | (simp; omega) | (have := HB.out.size; simp at *; omega)) _ | with_reducible refine Below.setCell ?_ (by first | exact Nat.le_refl _ | with_reducible exact HB.out.size | omega | (simp; done) | (simp; omega) | (have := HB.out.size; simp at *; omega)) _)) b)
    have Zw12 := Lib.hid HB.out.size
    have HR := Lib.hid (RdG.below (by repeat (first | with_reducible exact HR.out | with_reducible apply RdG.drewN | with_reducible apply RdG.drew | with_reducible apply RdG.alloc)) b)
    have Oa := Lib.hid (OwnS.below (by repeat (first | with_reducible exact Oa.out | with_reducible apply OwnS.drewN | with_reducible apply OwnS.drew | with_reducible apply OwnS.alloc)) b)
    have Ra := Lib.hid (Rd.below (by repeat (first | with_reducible exact Ra.out | with_reducible apply Rd.drewN | with_reducible apply Rd.drew | with_reducible apply Rd.alloc)) b)
    have Ob := Lib.hid (OwnS.below (by repeat (first | with_reducible exact Ob.out | with_reducible apply OwnS.drewN | with_reducible apply OwnS.drew | with_reducible apply OwnS.alloc)) b)
    have K0 : Hid (GBox _ (w.heap.size) (⟨45, s, nx, .slice p n c, .slice ps ns cs, .slice pw nw cw⟩)) := Lib.hid (GBox.below (by repeat (first | with_reducible exact K0.out | with_reducible apply GBox.drewN | with_reducible apply GBox.drew | (with_reducible refine GBox.newAt ?_ ?_ <;> first | (simp; done) | rfl) | with_reducible apply GBox.alloc)) b)
    try clear k0a k0b k0c k0d k0e k0z
    have k0z := K0.out.lt
    obtain ⟨k0a, k0b, k0c, k0d, k0e⟩ := K0.out.cell
    have O4 : Hid (OwnG w12 w11.heap.size w12.heap.size _ _ _ _ _ _) := Lib.hid (OwnG.base o4 (by first | exact Nat.le_refl _ | (simp; done) | (simp; omega)))
    have R4 := Lib.hid r4
    clear b o4 r4 f4
    have Yw13K0 := Lib.hid K0.out.lt
    go_wp2_with fail
    refine ((HIm.out p4 ps4 pw4 n c4 ns cs4 nw cw4 _ F4.out R4.out)).mono ?_
    rintro e w13 ⟨vc, rfl, oc, b⟩
    obtain ⟨pc, cc, rfl, hcc, rc, _⟩ := oc.form
    rw [HMm.out] at oc hcc ⊢
    clear hcc
    have Sw13 : Hid (w12.heap.size ≤ w13.heap.size) := Lib.hid (by first | exact b.size | (have h := b.size; simp at h; omega))
    have HB := Lib.hid (chain0 (w := w) (by repeat (first | with_reducible exact Below.refl _ _ | with_reducible exact HB.out | with_reducible apply Below.drew | with_reducible apply bdN | with_reducible refine Below.alloc ?_ (by first | exact Nat.le_refl _ | with_reducible exact HB.out.size | omega | (simp; done) | (simp; omega) | (have := HB.out.size; simp at *; omega)) _ | with_reducible refine Below.setCell ?_ (by first | exact Nat.le_refl _ | with_reducible exact HB.out.size | omega | (simp; done) | (simp; omega) | (have := HB.out.size; simp at *; omega)) _)) b)
    have Zw13 := Lib.hid HB.out.size
    have HR := Lib.hid (RdG.below (by repeat (first | with_reducible exact HR.out | with_reducible apply RdG.drewN | with_reducible apply RdG.drew | with_reducible apply RdG.alloc)) b)
    have Oa := Lib.hid (OwnS.below (by repeat (first | with_reducible exact Oa.out | with_reducible apply OwnS.drewN | with_reducible apply OwnS.drew | with_reducible apply OwnS.alloc)) b)
    have Ra := Lib.hid (Rd.below (by repeat (first | with_reducible exact Ra.out | with_reducible apply Rd.drewN | with_reducible apply Rd.drew | with_reducible apply Rd.alloc)) b)
    have Ob := Lib.hid (OwnS.below (by repeat (first | with_reducible exact Ob.out | with_reducible apply OwnS.drewN | with_reducible apply OwnS.drew | with_reducible apply OwnS.alloc)) b)
    have O4 := Lib.hid (OwnG.below (by repeat (first | with_reducible exact O4.out | with_reducible apply OwnG.drewN | with_reducible apply OwnG.drew | with_reducible apply OwnG.alloc)) b)
    have R4 := Lib.hid (RdG.below (by repeat (first | with_reducible exact R4.out | with_reducible apply RdG.drewN | with_reducible apply RdG.drew | with_reducible apply RdG.alloc)) b)
    have K0 : Hid (GBox _ (w.heap.size) (⟨45, s, nx, .slice p n c, .slice ps ns cs, .slice pw nw cw⟩)) := Lib.hid (GBox.below (by repeat (first | with_reducible exact K0.out | with_reducible apply GBox.drewN | with_reducible apply GBox.drew | (with_reducible refine GBox.newAt ?_ ?_ <;> first | (simp; done) | rfl) | with_reducible apply GBox.alloc)) b)
    try clear k0a k0b k0c k0d k0e k0z
    have k0z := K0.out.lt
    obtain ⟨k0a, k0b, k0c, k0d, k0e⟩ := K0.out.cell
    have Oc : Hid (OwnS w13 w12.heap.size w13.heap.size _ _) := Lib.hid (OwnS.base (OwnS.of oc) (by first | exact Nat.le_refl _ | (simp; done) | (simp; omega)))
    have Rc := Lib.hid rc
    clear b oc rc
    go_wp2_with fail
    refine ((eq_ints R pc pa a1 cc ca _ HMm.out (by omega) Rc.out Ra.out)).mono ?_
    rintro e w14 ⟨rfl, b⟩
    have Sw14 : Hid (w13.heap.size ≤ w14.heap.size) := Lib.hid (by first | exact b.size | (have h := b.size; simp at h; omega))
    have HB := Lib.hid (chain0 (w := w) (by repeat (first | with_reducible exact Below.refl _ _ | with_reducible exact HB.out | with_reducible apply Below.drew | with_reducible apply bdN | with_reducible refine Below.alloc ?_ (by first | exact Nat.le_refl _ | with_reducible exact HB.out.size | omega | (simp; done) | (simp; omega) | (have := HB.out.size; simp at *; omega)) _ | with_reducible refine Below.setCell ?_ (by first | exact Nat.le_refl _ | with_reducible exact HB.out.size | omega | (simp; done) | (simp; omega) | (have := HB.out.size; simp at *; omega)) _)) b)
    have HR := Lib.hid (RdG.below (by repeat (first | with_reducible exact HR.out | with_reducible apply RdG.drewN | with_reducible apply RdG.drew | with_reducible apply RdG.alloc)) b)
    have Oa := Lib.hid (OwnS.below (by repeat (first | with_reducible exact Oa.out | with_reducible apply OwnS.drewN | with_reducible apply OwnS.drew | with_reducible apply OwnS.alloc)) b)
    have Ra := Lib.hid (Rd.below (by repeat (first | with_reducible exact Ra.out | with_reducible apply Rd.drewN | with_reducible apply Rd.drew | with_reducible apply Rd.alloc)) b)
    have Ob := Lib.hid (OwnS.below (by repeat (first | with_reducible exact Ob.out | with_reducible apply OwnS.drewN | with_reducible apply OwnS.drew | with_reducible apply OwnS.alloc)) b)
    have O4 := Lib.hid (OwnG.below (by repeat (first | with_reducible exact O4.out | with_reducible apply OwnG.drewN | with_reducible apply OwnG.drew | with_reducible apply OwnG.alloc)) b)
    have R4 := Lib.hid (RdG.below (by repeat (first | with_reducible exact R4.out | with_reducible apply RdG.drewN | with_reducible apply RdG.drew | with_reducible apply RdG.alloc)) b)
    have Oc := Lib.hid (OwnS.below (by repeat (first | with_reducible exact Oc.out | with_reducible apply OwnS.drewN | with_reducible apply OwnS.drew | with_reducible apply OwnS.alloc)) b)
    have Rc := Lib.hid (Rd.below (by repeat (first | with_reducible exact Rc.out | with_reducible apply Rd.drewN | with_reducible apply Rd.drew | with_reducible apply Rd.alloc)) b)
    have K0 : Hid (GBox _ (w.heap.size) (⟨45, s, nx, .slice p n c, .slice ps ns cs, .slice pw nw cw⟩)) := Lib.hid (GBox.below (by repeat (first | with_reducible exact K0.out | with_reducible apply GBox.drewN | with_reducible apply GBox.drew | (with_reducible refine GBox.newAt ?_ ?_ <;> first | (simp; done) | rfl) | with_reducible apply GBox.alloc)) b)
    try clear k0a k0b k0c k0d k0e k0z
    have k0z := K0.out.lt
    obtain ⟨k0a, k0b, k0c, k0d, k0e⟩ := K0.out.cell
    clear b
    go_wp2_with fail
    refine ((held_ints (.slice pb a1 cb) _ 1 a1 _ (by omega) Ob.out.o)).mono ?_
    rintro e w15 ⟨rfl, b⟩
    have Sw15 : Hid (w14.heap.size ≤ w15.heap.size) := Lib.hid (by first | exact b.size | (have h := b.size; simp at h; omega))
    have HB := Lib.hid (chain0 (w := w) (by repeat (first | with_reducible exact Below.refl _ _ | with_reducible exact HB.out | with_reducible apply Below.drew | with_reducible apply bdN | with_reducible refine Below.alloc ?_ (by first | exact Nat.le_refl _ | with_reducible exact HB.out.size | omega | (simp; done) | (simp; omega) | (have := HB.out.size; simp at *; omega)) _ | with_reducible refine Below.setCell ?_ (by first | exact Nat.le_refl _ | with_reducible exact HB.out.size | omega | (simp; done) | (simp; omega) | (have := HB.out.size; simp at *; omega)) _)) b)
    have HR := Lib.hid (RdG.below (by repeat (first | with_reducible exact HR.out | with_reducible apply RdG.drewN | with_reducible apply RdG.drew | with_reducible apply RdG.alloc)) b)
    have Oa := Lib.hid (OwnS.below (by repeat (first | with_reducible exact Oa.out | with_reducible apply OwnS.drewN | with_reducible apply OwnS.drew | with_reducible apply OwnS.alloc)) b)
    have Ra := Lib.hid (Rd.below (by repeat (first | with_reducible exact Ra.out | with_reducible apply Rd.drewN | with_reducible apply Rd.drew | with_reducible apply Rd.alloc)) b)
    have Ob := Lib.hid (OwnS.below (by repeat (first | with_reducible exact Ob.out | with_reducible apply OwnS.drewN | with_reducible apply OwnS.drew | with_reducible apply OwnS.alloc)) b)
    have O4 := Lib.hid (OwnG.below (by repeat (first | with_reducible exact O4.out | with_reducible apply OwnG.drewN | with_reducible apply OwnG.drew | with_reducible apply OwnG.alloc)) b)
    have R4 := Lib.hid (RdG.below (by repeat (first | with_reducible exact R4.out | with_reducible apply RdG.drewN | with_reducible apply RdG.drew | with_reducible apply RdG.alloc)) b)
    have Oc := Lib.hid (OwnS.below (by repeat (first | with_reducible exact Oc.out | with_reducible apply OwnS.drewN | with_reducible apply OwnS.drew | with_reducible apply OwnS.alloc)) b)
    have Rc := Lib.hid (Rd.below (by repeat (first | with_reducible exact Rc.out | with_reducible apply Rd.drewN | with_reducible apply Rd.drew | with_reducible apply Rd.alloc)) b)
    have K0 : Hid (GBox _ (w.heap.size) (⟨45, s, nx, .slice p n c, .slice ps ns cs, .slice pw nw cw⟩)) := Lib.hid (GBox.below (by repeat (first | with_reducible exact K0.out | with_reducible apply GBox.drewN | with_reducible apply GBox.drew | (with_reducible refine GBox.newAt ?_ ?_ <;> first | (simp; done) | rfl) | with_reducible apply GBox.alloc)) b)
    try clear k0a k0b k0c k0d k0e k0z
    have k0z := K0.out.lt
    obtain ⟨k0a, k0b, k0c, k0d, k0e⟩ := K0.out.cell
    clear b
    go_wp2_with fail
    go_ret
    exact ⟨rfl, by repeat (first | with_reducible exact Below.refl _ _ | with_reducible exact HB.out | with_reducible apply Below.drew | with_reducible apply bdN | with_reducible refine Below.alloc ?_ (by first | exact Nat.le_refl _ | with_reducible exact HB.out.size | omega | (simp; done) | (simp; omega) | (have := HB.out.size; simp at *; omega)) _ | with_reducible refine Below.setCell ?_ (by first | exact Nat.le_refl _ | with_reducible exact HB.out.size | omega | (simp; done) | (simp; omega) | (have := HB.out.size; simp at *; omega)) _)⟩

theorem own : ownKnob Try.prog.godebug = none := by kernel_rfl
theorem laidOut : laidOutB Try.prog = true := by kernel_rfl
set_option maxRecDepth 100000 in
set_option maxHeartbeats 1000000 in
theorem lifted (os : Os) (started : os.Started) (H : Type) (enc : TypeId × Value → H) :
    ReturnsInHanded {} Try.checked os 7 .any (Rows.fnExactRankGameSpec.pre6 enc Try.prog Try.f7 Rows.fnExactRankGameRow.domain false) (Rows.fnExactRankGameSpec.post enc Try.prog Try.f7 false true false false) := by
  refine returnsInHanded_of_change (C := Try.checked) own started (by kernel_rfl) Try.func7
    (ChangeSpec.witness6 (enc := enc) (C := Try.checked) false ⟨#[], #[.agg #[.int .i64 0, .int .i64 0, .slice none 0 0, .slice none 0 0, .slice none 0 0]], []⟩ 8 (by kernel_rfl) (by kernel_rfl) (by kernel_rfl) (by kernel_rfl)) ?_
  intro W base args ds gs before hval0 hW hcnd _
  have hval : ∀ (j : Nat) t v, Try.f7.params[j]? = some t → args[j]? = some v → Value.okWide Try.prog W .any base t v := hval0
  have hW' := hW
  obtain ⟨p, q, hA0, hV, rfl, hfz, hnd⟩ := hW
  have hA : DataW.TrodAll enc Try.prog W 0 (fun _ => true) true Try.f7.params.toList args.toList ds p := hA0
  rw [Try.params7] at hA hval
  have hR := fun (W' : World) (hb : Below W.heap.size W W') => frame.still_all laidOut hb _ _ _ _ (by decide +kernel) hA
  obtain ⟨v0, vs0, d0, ds0, p0, q0, hargs, rfl, hp, h0, r0⟩ := trodAll_cons hA
  obtain ⟨rfl, rfl, hpn⟩ := trodAll_nil r0
  obtain rfl : args = #[v0] := by cases args; simp_all
  obtain ⟨rfl, rfl⟩ := trodVars_none hV
  obtain ⟨s0, x0, b0, n0, c0, l0, bs0, ns0, cs0, sc0, bw0, nw0, cw0, wt0, rfl, w0⟩ := frame.open_game Try.underlying45 rfl rfl rfl rfl rfl rfl Try.underlying42 rfl rfl rfl rfl rfl rfl Try.underlying3 (by kernel_rfl) Try.underlying29 (by kernel_rfl) Try.underlying22 Try.underlying3 (by kernel_rfl) (by kernel_rfl) Try.underlying43 (by kernel_rfl) (by kernel_rfl) (by kernel_rfl) (hval 0 45 v0 rfl rfl) h0
  clear hA0 hval0
  simp only [List.append_nil] at hW'
  refine (walk s0 x0 b0 n0 c0 l0 bs0 ns0 cs0 sc0 bw0 nw0 cw0 wt0 W w0).mono fun e W' ⟨he, hw⟩ => ?_
  subst he
  exact ⟨_, rfl, _, _, _, [], p, [], hW', trodAll_mk1 (shut_bool Try.underlying4 _), hR W' hw, rfl, hw.frame _, fun h => by cases h⟩

theorem over : Rows.fnExactRankGameRow.holds Try.pinned (OpenSpec.ofChange Rows.fnExactRankGameSpec) :=
  OpenClaim.holds_of_wide 7 Try.f7 rfl rfl rfl rfl rfl rfl rfl ⟨rfl, rfl, rfl, rfl, rfl⟩ rfl rfl rfl rfl rfl (by kernel_rfl) Try.func7 (by kernel_rfl)
    (of_decide_eq_true (by kernel_rfl)) (by unfold Func.isWrapper; first | (rw [if_pos (by decide +kernel)]; kernel_rfl) | (rw [if_neg (by decide +kernel)]; exact ⟨rfl, rfl⟩))
    (fun os started H enc _ => lifted os started H enc)

theorem proved : Rows.FnExactRankGameSaid := over
end Go.Proofs.Ytjanphcfflahkaa.lawRankGame