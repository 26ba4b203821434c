/- Merged texts: Eu, Ev, Eo, Ew, Jd, Jf, Je. -/
import Derived.Test.YtjpfjgoebdogjaaGWorthClaims0
import Derived.Test.YtjpfjgoebdogjaaQn
import Derived.BigQuiet
import Derived.Test.YtjpfjgoebdogjaaUb
import Derived.Test.YtjpfjgoebdogjaaQs
import Derived.Test.YtjpfjgoebdogjaaQx
import Derived.Deep.LoopGhost
import Derived.Deep.CutBlock
/- Is a claim right; its kind: the program's. -/
namespace Go.Proofs.Ytjpfjgoebdogjaa.game
open Go.RowKit
open cards deal
set_option linter.unusedVariables false

theorem key_claim (x : Cd) (h : wfc x) : (Try.prog).keyLits 3 61 x.val.cells.toList = some (lits x) := by
  obtain ⟨w1, w2, w3, w4⟩ := h
  have ce : (Try.prog).cellsOf 3 = 1 := by kernel_rfl
  have c3 : (Try.prog).cellsOf 59 = 3 := by kernel_rfl
  have ct : (Try.prog).cellsOf 61 = 4 := by kernel_rfl
  simp [Program.keyLits, Try.underlying61, Try.underlying59, Try.underlying3, Value.cells, ce, c3, ct, w1, w2, w3, w4, show List.range 3 = [0, 1, 2] from rfl, lits]
theorem eqC_run (x y : Cd) (hx : wfc x) (hy : wfc y) (w : World) : (Op.equalIn 10000 61 x.val y.val).run Try.prog w = .ok (same x y) w := by
  obtain ⟨r, hr, hi⟩ := run_equalIn_deep (P := Try.prog) 9997 3 61 (by kernel_rfl) w 3 3 x.val y.val (lits x) (lits y) (by kernel_rfl) (by kernel_rfl) (key_claim x hx) (key_claim y hy)
  have e : r = same x y := by
    rw [Bool.eq_iff_iff, hi]
    simp [lits, same]
  rw [← e]
  exact hr
abbrev mkC (q : Int) (t : A3) : Cd := ⟨q, t.a, t.b, t.c⟩
theorem right_yes {l : List Cd} {ns : Nat} {c : Cd} {t : A3} {q : Nat} (hq : q < ns) (ht : t ∈ lines l) (h : same c (mkC q t) = true) : rightB l ns c = true := by
  have e := same_iff.1 h
  unfold rightB isP plc
  rw [e, Bool.and_eq_true]
  exact ⟨decide_eq_true (by simp only; omega), has3_iff.2 ht⟩
theorem right_no {l : List Cd} {ns : Nat} {c : Cd} (h : ∀ (k : Nat) t, (lines l)[k]? = some t → ∀ q : Nat, q < ns → same c (mkC q t) = false) : rightB l ns c = false := by
  cases hr : rightB l ns c
  · rfl
  · unfold rightB at hr
    rw [Bool.and_eq_true] at hr
    obtain ⟨h1, h2⟩ := hr
    unfold isP at h1
    have h1 := of_decide_eq_true h1
    obtain ⟨k, hk⟩ := List.mem_iff_getElem?.1 (has3_iff.1 h2)
    have := h k _ hk c.a.toNat (by omega)
    have e : mkC (c.a.toNat : Int) (plc c) = c := by
      obtain ⟨a, b, d, f⟩ := c
      simp only [mkC, plc, Cd.mk.injEq, and_true]
      simp only at h1
      omega
    rw [e] at this
    rw [same_self] at this
    cases this

set_option maxRecDepth 100000 in
set_option maxHeartbeats 4000000 in
theorem is_right (s nx : Int) (l : List Cd) (cl : Cd) (p ps pw : Option Addr) (n c ns cs nw cw : Nat) (w : World) (hn : l.length = n) (hl : n ≤ 81) (hns : ns ≤ 1000) (hr : Rd w p (flat l)) (hok : l.all Cd.ok = true) (hd : l.Nodup) (hw : wfc cl) :
    Calls Try.prog 105 #[gval s nx (.slice p n c) (.slice ps ns cs) (.slice pw nw cw), cl.val] w fun e w' => e = .returned (.bool (rightB l ns cl)) ∧ Below w.heap.size w w' := by
  have HR := Lib.hid hr
  have HW := Lib.hid hw
  have HLo := Lib.hid (fun w h => lines_of l p n c w hn hl h hok)
  have HLw := Lib.hid (lines_wf hd (by rw [hn]; exact hl))
  have HLl : Hid ((lines l).length ≤ 6561) := Lib.hid (by
    have h1 := lines_len l
    have h2 : l.length * l.length ≤ 81 * 81 := Nat.mul_le_mul (by rw [hn]; exact hl) (by rw [hn]; exact hl)
    omega)
  have HYes := Lib.hid (fun t q => right_yes (l := l) (ns := ns) (c := cl) (t := t) (q := q))
  have HNo := Lib.hid (right_no (l := l) (ns := ns) (c := cl))
  obtain ⟨LS, hLS⟩ : ∃ LS, lines l = LS := ⟨_, rfl⟩
  rw [hLS] at HLo HLw HLl HYes HNo
  obtain ⟨m, hm⟩ : ∃ m, LS.length = m := ⟨_, rfl⟩
  have HM := Lib.hid hm
  rw [hm] at HLl
  have hm6 := HLl.out
  obtain ⟨rb, hrb⟩ : ∃ rb, rightB l ns cl = rb := ⟨_, rfl⟩
  rw [hrb] at HYes HNo ⊢
  clear hr hw hLS hm hrb hn hok hd HLl
  have K3 : Hid (CBox ((w.alloc (Gv.obj ⟨33, s, nx, .slice p n c, .slice ps ns cs, .slice pw nw cw⟩)).alloc (Cv.obj ⟨61, cl⟩)) (w.heap.size + 1) ⟨61, cl⟩) := Lib.hid (CBox.newAt (by simp) rfl)
  go_enter Try.func105, Try.ntmps105
  go_upto_region 1 with fail
  obtain ⟨w0, ew, b⟩ : ∃ wOPN : World, wOPN = ((w.alloc (Gv.obj ⟨33, s, nx, .slice p n c, .slice ps ns cs, .slice pw nw cw⟩)).alloc (Cv.obj ⟨61, cl⟩)) ∧ Below (((w.alloc (Gv.obj ⟨33, s, nx, .slice p n c, .slice ps ns cs, .slice pw nw cw⟩)).alloc (Cv.obj ⟨61, cl⟩))).heap.size (((w.alloc (Gv.obj ⟨33, s, nx, .slice p n c, .slice ps ns cs, .slice pw nw cw⟩)).alloc (Cv.obj ⟨61, cl⟩))) wOPN := ⟨_, rfl, Below.refl _ _⟩
  rw [← ew]
  clear ew
  have Sw0 := Lib.hid b.size
  have HB := Lib.hid (chain0 (w := w) (by repeat (first | with_reducible exact Below.refl _ _ | with_reducible exact HB.out | with_reducible apply Below.drew | with_reducible apply bdN | with_reducible refine Below.alloc ?_ (by first | exact Nat.le_refl _ | with_reducible exact HB.out.size | omega | (simp; done) | (simp; omega) | (have := HB.out.size; simp at *; omega)) _)) b)
  have HR := Lib.hid (Rd.below (by repeat (first | with_reducible exact HR.out | with_reducible apply Rd.drewN | with_reducible apply Rd.drew | with_reducible apply Rd.alloc)) b)
  have K2 : Hid (GBox _ (w.heap.size) (⟨33, s, nx, .slice p n c, .slice ps ns cs, .slice pw nw cw⟩)) := Lib.hid (GBox.below (by repeat (first | with_reducible exact K2.out | with_reducible apply GBox.drewN | with_reducible apply GBox.drew | (with_reducible refine GBox.newAt ?_ ?_ <;> first | (simp; done) | rfl) | with_reducible apply GBox.alloc)) b)
  have K3 : Hid (CBox _ (w.heap.size + 1) (⟨61, cl⟩)) := Lib.hid (CBox.below (by repeat (first | with_reducible exact K3.out | with_reducible apply CBox.drewN | with_reducible apply CBox.drew | (with_reducible refine CBox.newAt ?_ ?_ <;> first | (simp; done) | rfl) | with_reducible apply CBox.alloc)) b)
  try clear k2a k2b k2c k2d k2e k2z
  have k2z := K2.out.lt
  obtain ⟨k2a, k2b, k2c, k2d, k2e⟩ := K2.out.cell
  try clear k3a k3b k3c k3d k3z
  have k3z := K3.out.lt
  obtain ⟨k3a, k3b, k3c, k3d⟩ := K3.out.cell
  clear b
  go_wp2_with fail
  refine (HLo.out _ HR.out).mono ?_
  rintro e w1 ⟨u, rfl, hu, b⟩
  obtain ⟨pu, cu, rfl, _, ru, _⟩ := hu.form
  rw [HM.out]
  have Sw1 := Lib.hid b.size
  have HB := Lib.hid (chain0 (w := w) (by repeat (first | with_reducible exact Below.refl _ _ | with_reducible exact HB.out | with_reducible apply Below.drew | with_reducible apply bdN | with_reducible refine Below.alloc ?_ (by first | exact Nat.le_refl _ | with_reducible exact HB.out.size | omega | (simp; done) | (simp; omega) | (have := HB.out.size; simp at *; omega)) _)) b)
  have HR := Lib.hid (Rd.below (by repeat (first | with_reducible exact HR.out | with_reducible apply Rd.drewN | with_reducible apply Rd.drew | with_reducible apply Rd.alloc)) b)
  have K2 : Hid (GBox _ (w.heap.size) (⟨33, s, nx, .slice p n c, .slice ps ns cs, .slice pw nw cw⟩)) := Lib.hid (GBox.below (by repeat (first | with_reducible exact K2.out | with_reducible apply GBox.drewN | with_reducible apply GBox.drew | (with_reducible refine GBox.newAt ?_ ?_ <;> first | (simp; done) | rfl) | with_reducible apply GBox.alloc)) b)
  have K3 : Hid (CBox _ (w.heap.size + 1) (⟨61, cl⟩)) := Lib.hid (CBox.below (by repeat (first | with_reducible exact K3.out | with_reducible apply CBox.drewN | with_reducible apply CBox.drew | (with_reducible refine CBox.newAt ?_ ?_ <;> first | (simp; done) | rfl) | with_reducible apply CBox.alloc)) b)
  try clear k2a k2b k2c k2d k2e k2z
  have k2z := K2.out.lt
  obtain ⟨k2a, k2b, k2c, k2d, k2e⟩ := K2.out.cell
  try clear k3a k3b k3c k3d k3z
  have k3z := K3.out.lt
  obtain ⟨k3a, k3b, k3c, k3d⟩ := K3.out.cell
  clear b
  have HV := Lib.hid ru
  clear hu ru
  go_wp2_with fail
  go_loopw [6, 7, 13, 20] (fun _ _ i _ wr => ∃ k : Nat, k ≤ m ∧ i = .int .i64 k ∧ Hid (∀ (j : Nat) t, j < k → LS[j]? = some t → ∀ q : Nat, q < ns → same cl (mkC q t) = false) ∧ Hid (Below w.heap.size w wr) ∧ Hid (Rd wr pu (A3.flat LS)) ∧ Hid (GBox wr w.heap.size ⟨33, s, nx, .slice p n c, .slice ps ns cs, .slice pw nw cw⟩) ∧ Hid (CBox wr (w.heap.size + 1) ⟨61, cl⟩)) (fun _ _ i _ _ => m - (intOf i).toNat)
  case atStart => exact ⟨0, Nat.zero_le _, rfl, Lib.hid (fun j t h => by omega), HB, HV, K2, K3⟩
  case round =>
    clear HB HV K2 K3 k2a k2b k2c k2d k2e k2z k3a k3b k3c k3d k3z
    obtain ⟨k, hk, rfl, HU, HB, HV, K2, K3⟩ := hrel
    obtain ⟨k2a, k2b, k2c, k2d, k2e⟩ := K2.out.cell
    have k2z := K2.out.lt
    have m0 : (0 : Int) ≤ (k : Int) := by omega
    by_cases hlt : k < m
    · have m1 : (k : Int) < (m : Int) := by omega
      obtain ⟨b1, o1, t, rfl, hb1, ht, c0, c1, c2⟩ := HV.out.aA3 (k := k) (by rw [HM.out]; exact hlt)
      have HT := Lib.hid ht
      have HTw := Lib.hid (HLw.out t (List.mem_of_getElem? ht))
      have HTm := Lib.hid (List.mem_of_getElem? ht)
      clear ht
      go_upto_region 4 with fail
      have K6 : Hid (TBox (wr.alloc t.obj) wr.heap.size t) := Lib.hid (TBox.newAt rfl rfl)
      have K2' := Lib.hid (K2.out.alloc t.obj)
      have K3' := Lib.hid (K3.out.alloc t.obj)
      have HB' := Lib.hid (HB.out.alloc HB.out.size t.obj)
      have HV' := Lib.hid (Rd.alloc HV.out t.obj)
      obtain ⟨g6, hg6⟩ : ∃ g6, wr.heap.size = g6 := ⟨_, rfl⟩
      rw [hg6] at K6
      try rw [hg6]
      clear hg6 c0 c1 c2 k2a k2b k2c k2d k2e k2z K2 K3 HB HV hb1
      generalize wr.alloc t.obj = W at K6 K2' K3' HB' HV' ⊢
      obtain ⟨k2a, k2b, k2c, k2d, k2e⟩ := K2'.out.cell
      have k2z := K2'.out.lt
      go_wp2_with fail
      go_loopw [7, 20] (fun _ i wr => ∃ q : Nat, q ≤ ns ∧ i = .int .i64 q ∧ Hid (∀ j : Nat, j < q → same cl (mkC j t) = false) ∧ Hid (Below w.heap.size w wr) ∧ Hid (Rd wr (some ⟨b1, o1, none⟩) (A3.flat LS)) ∧ Hid (GBox wr w.heap.size ⟨33, s, nx, .slice p n c, .slice ps ns cs, .slice pw nw cw⟩) ∧ Hid (CBox wr (w.heap.size + 1) ⟨61, cl⟩) ∧ Hid (TBox wr g6 t)) (fun _ i _ => ns - (intOf i).toNat)
      case atStart => exact ⟨0, Nat.zero_le _, rfl, Lib.hid (fun j h => by omega), HB', HV', K2', K3', K6⟩
      case round =>
        clear HB' HV' K2' K3' K6 k2a k2b k2c k2d k2e k2z
        obtain ⟨q, hq, rfl, HI, HB, HV, K2, K3, K6⟩ := hrel
        obtain ⟨k3a, k3b, k3c, k3d⟩ := K3.out.cell
        obtain ⟨k6a, k6b, k6c, k6d⟩ := K6.out.cell
        have q0 : (0 : Int) ≤ (q : Int) := by omega
        by_cases hqt : q < ns
        · have q1 : (q : Int) < (ns : Int) := by omega
          have he : ∀ w, (Op.equalIn 10000 61 cl.val (.agg #[.int .i64 (q : Int), .int .i64 t.a, .int .i64 t.b, .int .i64 t.c])).run Try.prog w = .ok (same cl (mkC q t)) w := eqC_run cl (mkC q t) HW.out ⟨wf_small (by omega) (by show (q : Int) ≤ 1000; omega), HTw.out.1, HTw.out.2.1, HTw.out.2.2⟩
          have HY := Lib.hid (fun h => HYes.out t q hqt HTm.out h)
          cases hs : same cl (mkC q t)
          · have HI2 : Hid (∀ j : Nat, j < q + 1 → same cl (mkC j t) = false) := Lib.hid (fun j hj => by
              rcases Nat.lt_or_ge j q with h | h
              · exact HI.out j h
              · obtain rfl : j = q := by omega
                exact hs)
            rw [hs] at he
            clear hs
            go_wp2_with fail
            go_roundw
            case rel => exact ⟨q + 1, by omega, by go_num, HI2, HB, HV, K2, K3, K6⟩
            case measure => simp [intOf]; omega
          · have HT2 := Lib.hid (HY.out hs)
            rw [hs] at he
            clear hs
            go_wp2_with fail
            go_ret
            exact ⟨ret_bool HT2.out.symm, HB.out⟩
        · obtain rfl : ns = q := by omega
          have HU2 : Hid (∀ (j : Nat) t, j < k + 1 → LS[j]? = some t → ∀ q' : Nat, q' < ns → same cl (mkC q' t) = false) := Lib.hid (fun j t' hj ht q' hq' => by
            rcases Nat.lt_or_ge j k with h | h
            · exact HU.out j t' h ht q' hq'
            · obtain rfl : j = k := by omega
              have e := HT.out
              rw [ht] at e
              injection e with e
              subst e
              exact HI.out q' hq')
          go_wp2_with fail
          go_roundw
          case rel => exact ⟨k + 1, by omega, by go_num, HU2, HB, HV, K2, K3⟩
          case measure => simp [intOf]; omega
    · obtain rfl : k = m := by omega
      have HN2 := Lib.hid (HNo.out (fun j t ht q hq => HU.out j t (by have := (List.getElem?_eq_some_iff.1 ht).1; rw [HM.out] at this; exact this) ht q hq))
      go_wp2_with fail
      go_ret
      exact ⟨ret_bool HN2.out.symm, HB.out⟩
end Go.Proofs.Ytjpfjgoebdogjaa.game

/- The kind of a claim: the program's and the model's. -/
namespace Go.Proofs.Ytjpfjgoebdogjaa.game
open Go.RowKit
open cards deal
set_option linter.unusedVariables false

theorem kind_r {l : List Cd} {ns : Nat} {c : Cd} (h : rightB l ns c = true) : kind l ns c = 1 := by unfold kind; rw [if_pos h]
theorem kind_w {l : List Cd} {ns : Nat} {c : Cd} (h : rightB l ns c = false) (h1 : isP ns c.a = true) (h2 : onT l.length (plc c) = true) : kind l ns c = 2 := by unfold kind; rw [if_neg (by simp [h]), if_pos (by simp [h1, h2])]
theorem kind_i {l : List Cd} {ns : Nat} {c : Cd} (h : rightB l ns c = false) (h1 : (isP ns c.a && onT l.length (plc c)) = false) : kind l ns c = 3 := by unfold kind; rw [if_neg (by simp [h]), if_neg (by simp [h1])]

set_option maxRecDepth 100000 in
set_option maxHeartbeats 4000000 in
theorem kind_of (s nx : Int) (l : List Cd) (cl : Cd) (p ps pw : Option Addr) (n c ns cs nw cw : Nat) (w : World) (hn : l.length = n) (hl : n ≤ 81) (hns : ns ≤ 1000) (hr : Rd w p (flat l)) (hok : l.all Cd.ok = true) (hd : l.Nodup) (hw : wfc cl) :
    Calls Try.prog 81 #[gval s nx (.slice p n c) (.slice ps ns cs) (.slice pw nw cw), cl.val] w fun e w' => e = .returned (.int .i64 (kind l ns cl)) ∧ Below w.heap.size w w' := by
  have HR := Lib.hid hr
  have HRi := Lib.hid (fun w h => is_right s nx l cl p ps pw n c ns cs nw cw w hn hl hns h hok hd hw)
  have HPl := Lib.hid (fun w => is_player s nx cl.a p ps pw n c ns cs nw cw w)
  have HOt := Lib.hid (fun w => on_table (plc cl) p n c w)
  have HN := Lib.hid hn
  obtain ⟨b1, hb1⟩ : ∃ b1, rightB l ns cl = b1 := ⟨_, rfl⟩
  obtain ⟨b2, hb2⟩ : ∃ b2, isP ns cl.a = b2 := ⟨_, rfl⟩
  obtain ⟨b3, hb3⟩ : ∃ b3, onT n (plc cl) = b3 := ⟨_, rfl⟩
  rw [hb1] at HRi
  rw [hb2] at HPl
  rw [hb3] at HOt
  have H1 := Lib.hid hb1
  have H2 := Lib.hid hb2
  have H3 := Lib.hid hb3
  have K3 : Hid (CBox ((w.alloc (Gv.obj ⟨33, s, nx, .slice p n c, .slice ps ns cs, .slice pw nw cw⟩)).alloc (Cv.obj ⟨61, cl⟩)) (w.heap.size + 1) ⟨61, cl⟩) := Lib.hid (CBox.newAt (by simp) rfl)
  clear hr hn hok hd hw hb1 hb2 hb3
  cases b1
  · cases b2
    · have HT := Lib.hid (kind_i H1.out (by rw [H2.out]; rfl))
      rw [HT.out]
      go_enter Try.func81, Try.ntmps81
      go_upto_region 2 with fail
      obtain ⟨w0, ew, b⟩ : ∃ wOPN : World, wOPN = ((w.alloc (Gv.obj ⟨33, s, nx, .slice p n c, .slice ps ns cs, .slice pw nw cw⟩)).alloc (Cv.obj ⟨61, cl⟩)) ∧ Below (((w.alloc (Gv.obj ⟨33, s, nx, .slice p n c, .slice ps ns cs, .slice pw nw cw⟩)).alloc (Cv.obj ⟨61, cl⟩))).heap.size (((w.alloc (Gv.obj ⟨33, s, nx, .slice p n c, .slice ps ns cs, .slice pw nw cw⟩)).alloc (Cv.obj ⟨61, cl⟩))) wOPN := ⟨_, rfl, Below.refl _ _⟩
      rw [← ew]
      clear ew
      have Sw0 := Lib.hid b.size
      have HB := Lib.hid (chain0 (w := w) (by repeat (first | with_reducible exact Below.refl _ _ | with_reducible exact HB.out | with_reducible apply Below.drew | with_reducible apply bdN | with_reducible refine Below.alloc ?_ (by first | exact Nat.le_refl _ | with_reducible exact HB.out.size | omega | (simp; done) | (simp; omega) | (have := HB.out.size; simp at *; omega)) _)) b)
      have HR := Lib.hid (Rd.below (by repeat (first | with_reducible exact HR.out | with_reducible apply Rd.drewN | with_reducible apply Rd.drew | with_reducible apply Rd.alloc)) b)
      have K2 : Hid (GBox _ (w.heap.size) (⟨33, s, nx, .slice p n c, .slice ps ns cs, .slice pw nw cw⟩)) := Lib.hid (GBox.below (by repeat (first | with_reducible exact K2.out | with_reducible apply GBox.drewN | with_reducible apply GBox.drew | (with_reducible refine GBox.newAt ?_ ?_ <;> first | (simp; done) | rfl) | with_reducible apply GBox.alloc)) b)
      have K3 : Hid (CBox _ (w.heap.size + 1) (⟨61, cl⟩)) := Lib.hid (CBox.below (by repeat (first | with_reducible exact K3.out | with_reducible apply CBox.drewN | with_reducible apply CBox.drew | (with_reducible refine CBox.newAt ?_ ?_ <;> first | (simp; done) | rfl) | with_reducible apply CBox.alloc)) b)
      try clear k2a k2b k2c k2d k2e k2z
      have k2z := K2.out.lt
      obtain ⟨k2a, k2b, k2c, k2d, k2e⟩ := K2.out.cell
      try clear k3a k3b k3c k3d k3z
      have k3z := K3.out.lt
      obtain ⟨k3a, k3b, k3c, k3d⟩ := K3.out.cell
      clear b
      go_wp2_with fail
      refine ((HRi.out _ HR.out)).mono ?_
      rintro e w1 ⟨rfl, b⟩
      have Sw1 := Lib.hid b.size
      have HB := Lib.hid (chain0 (w := w) (by repeat (first | with_reducible exact Below.refl _ _ | with_reducible exact HB.out | with_reducible apply Below.drew | with_reducible apply bdN | with_reducible refine Below.alloc ?_ (by first | exact Nat.le_refl _ | with_reducible exact HB.out.size | omega | (simp; done) | (simp; omega) | (have := HB.out.size; simp at *; omega)) _)) b)
      have HR := Lib.hid (Rd.below (by repeat (first | with_reducible exact HR.out | with_reducible apply Rd.drewN | with_reducible apply Rd.drew | with_reducible apply Rd.alloc)) b)
      have K2 : Hid (GBox _ (w.heap.size) (⟨33, s, nx, .slice p n c, .slice ps ns cs, .slice pw nw cw⟩)) := Lib.hid (GBox.below (by repeat (first | with_reducible exact K2.out | with_reducible apply GBox.drewN | with_reducible apply GBox.drew | (with_reducible refine GBox.newAt ?_ ?_ <;> first | (simp; done) | rfl) | with_reducible apply GBox.alloc)) b)
      have K3 : Hid (CBox _ (w.heap.size + 1) (⟨61, cl⟩)) := Lib.hid (CBox.below (by repeat (first | with_reducible exact K3.out | with_reducible apply CBox.drewN | with_reducible apply CBox.drew | (with_reducible refine CBox.newAt ?_ ?_ <;> first | (simp; done) | rfl) | with_reducible apply CBox.alloc)) b)
      try clear k2a k2b k2c k2d k2e k2z
      have k2z := K2.out.lt
      obtain ⟨k2a, k2b, k2c, k2d, k2e⟩ := K2.out.cell
      try clear k3a k3b k3c k3d k3z
      have k3z := K3.out.lt
      obtain ⟨k3a, k3b, k3c, k3d⟩ := K3.out.cell
      clear b
      go_wp2_with fail
      refine ((HPl.out _)).mono ?_
      rintro e w2 ⟨rfl, b⟩
      have Sw2 := Lib.hid b.size
      have HB := Lib.hid (chain0 (w := w) (by repeat (first | with_reducible exact Below.refl _ _ | with_reducible exact HB.out | with_reducible apply Below.drew | with_reducible apply bdN | with_reducible refine Below.alloc ?_ (by first | exact Nat.le_refl _ | with_reducible exact HB.out.size | omega | (simp; done) | (simp; omega) | (have := HB.out.size; simp at *; omega)) _)) b)
      have HR := Lib.hid (Rd.below (by repeat (first | with_reducible exact HR.out | with_reducible apply Rd.drewN | with_reducible apply Rd.drew | with_reducible apply Rd.alloc)) b)
      have K2 : Hid (GBox _ (w.heap.size) (⟨33, s, nx, .slice p n c, .slice ps ns cs, .slice pw nw cw⟩)) := Lib.hid (GBox.below (by repeat (first | with_reducible exact K2.out | with_reducible apply GBox.drewN | with_reducible apply GBox.drew | (with_reducible refine GBox.newAt ?_ ?_ <;> first | (simp; done) | rfl) | with_reducible apply GBox.alloc)) b)
      have K3 : Hid (CBox _ (w.heap.size + 1) (⟨61, cl⟩)) := Lib.hid (CBox.below (by repeat (first | with_reducible exact K3.out | with_reducible apply CBox.drewN | with_reducible apply CBox.drew | (with_reducible refine CBox.newAt ?_ ?_ <;> first | (simp; done) | rfl) | with_reducible apply CBox.alloc)) b)
      try clear k2a k2b k2c k2d k2e k2z
      have k2z := K2.out.lt
      obtain ⟨k2a, k2b, k2c, k2d, k2e⟩ := K2.out.cell
      try clear k3a k3b k3c k3d k3z
      have k3z := K3.out.lt
      obtain ⟨k3a, k3b, k3c, k3d⟩ := K3.out.cell
      clear b
      go_wp2_with fail
      go_ret
      exact ⟨rfl, by repeat (first | with_reducible exact Below.refl _ _ | with_reducible exact HB.out | with_reducible apply Below.drew | with_reducible apply bdN | with_reducible refine Below.alloc ?_ (by first | exact Nat.le_refl _ | with_reducible exact HB.out.size | omega | (simp; done) | (simp; omega) | (have := HB.out.size; simp at *; omega)) _)⟩
    · cases b3
      · have HT := Lib.hid (kind_i H1.out (by rw [H2.out, HN.out, H3.out]; rfl))
        rw [HT.out]
        go_enter Try.func81, Try.ntmps81
        go_upto_region 2 with fail
        obtain ⟨w0, ew, b⟩ : ∃ wOPN : World, wOPN = ((w.alloc (Gv.obj ⟨33, s, nx, .slice p n c, .slice ps ns cs, .slice pw nw cw⟩)).alloc (Cv.obj ⟨61, cl⟩)) ∧ Below (((w.alloc (Gv.obj ⟨33, s, nx, .slice p n c, .slice ps ns cs, .slice pw nw cw⟩)).alloc (Cv.obj ⟨61, cl⟩))).heap.size (((w.alloc (Gv.obj ⟨33, s, nx, .slice p n c, .slice ps ns cs, .slice pw nw cw⟩)).alloc (Cv.obj ⟨61, cl⟩))) wOPN := ⟨_, rfl, Below.refl _ _⟩
        rw [← ew]
        clear ew
        have Sw0 := Lib.hid b.size
        have HB := Lib.hid (chain0 (w := w) (by repeat (first | with_reducible exact Below.refl _ _ | with_reducible exact HB.out | with_reducible apply Below.drew | with_reducible apply bdN | with_reducible refine Below.alloc ?_ (by first | exact Nat.le_refl _ | with_reducible exact HB.out.size | omega | (simp; done) | (simp; omega) | (have := HB.out.size; simp at *; omega)) _)) b)
        have HR := Lib.hid (Rd.below (by repeat (first | with_reducible exact HR.out | with_reducible apply Rd.drewN | with_reducible apply Rd.drew | with_reducible apply Rd.alloc)) b)
        have K2 : Hid (GBox _ (w.heap.size) (⟨33, s, nx, .slice p n c, .slice ps ns cs, .slice pw nw cw⟩)) := Lib.hid (GBox.below (by repeat (first | with_reducible exact K2.out | with_reducible apply GBox.drewN | with_reducible apply GBox.drew | (with_reducible refine GBox.newAt ?_ ?_ <;> first | (simp; done) | rfl) | with_reducible apply GBox.alloc)) b)
        have K3 : Hid (CBox _ (w.heap.size + 1) (⟨61, cl⟩)) := Lib.hid (CBox.below (by repeat (first | with_reducible exact K3.out | with_reducible apply CBox.drewN | with_reducible apply CBox.drew | (with_reducible refine CBox.newAt ?_ ?_ <;> first | (simp; done) | rfl) | with_reducible apply CBox.alloc)) b)
        try clear k2a k2b k2c k2d k2e k2z
        have k2z := K2.out.lt
        obtain ⟨k2a, k2b, k2c, k2d, k2e⟩ := K2.out.cell
        try clear k3a k3b k3c k3d k3z
        have k3z := K3.out.lt
        obtain ⟨k3a, k3b, k3c, k3d⟩ := K3.out.cell
        clear b
        go_wp2_with fail
        refine ((HRi.out _ HR.out)).mono ?_
        rintro e w1 ⟨rfl, b⟩
        have Sw1 := Lib.hid b.size
        have HB := Lib.hid (chain0 (w := w) (by repeat (first | with_reducible exact Below.refl _ _ | with_reducible exact HB.out | with_reducible apply Below.drew | with_reducible apply bdN | with_reducible refine Below.alloc ?_ (by first | exact Nat.le_refl _ | with_reducible exact HB.out.size | omega | (simp; done) | (simp; omega) | (have := HB.out.size; simp at *; omega)) _)) b)
        have HR := Lib.hid (Rd.below (by repeat (first | with_reducible exact HR.out | with_reducible apply Rd.drewN | with_reducible apply Rd.drew | with_reducible apply Rd.alloc)) b)
        have K2 : Hid (GBox _ (w.heap.size) (⟨33, s, nx, .slice p n c, .slice ps ns cs, .slice pw nw cw⟩)) := Lib.hid (GBox.below (by repeat (first | with_reducible exact K2.out | with_reducible apply GBox.drewN | with_reducible apply GBox.drew | (with_reducible refine GBox.newAt ?_ ?_ <;> first | (simp; done) | rfl) | with_reducible apply GBox.alloc)) b)
        have K3 : Hid (CBox _ (w.heap.size + 1) (⟨61, cl⟩)) := Lib.hid (CBox.below (by repeat (first | with_reducible exact K3.out | with_reducible apply CBox.drewN | with_reducible apply CBox.drew | (with_reducible refine CBox.newAt ?_ ?_ <;> first | (simp; done) | rfl) | with_reducible apply CBox.alloc)) b)
        try clear k2a k2b k2c k2d k2e k2z
        have k2z := K2.out.lt
        obtain ⟨k2a, k2b, k2c, k2d, k2e⟩ := K2.out.cell
        try clear k3a k3b k3c k3d k3z
        have k3z := K3.out.lt
        obtain ⟨k3a, k3b, k3c, k3d⟩ := K3.out.cell
        clear b
        go_wp2_with fail
        refine ((HPl.out _)).mono ?_
        rintro e w2 ⟨rfl, b⟩
        have Sw2 := Lib.hid b.size
        have HB := Lib.hid (chain0 (w := w) (by repeat (first | with_reducible exact Below.refl _ _ | with_reducible exact HB.out | with_reducible apply Below.drew | with_reducible apply bdN | with_reducible refine Below.alloc ?_ (by first | exact Nat.le_refl _ | with_reducible exact HB.out.size | omega | (simp; done) | (simp; omega) | (have := HB.out.size; simp at *; omega)) _)) b)
        have HR := Lib.hid (Rd.below (by repeat (first | with_reducible exact HR.out | with_reducible apply Rd.drewN | with_reducible apply Rd.drew | with_reducible apply Rd.alloc)) b)
        have K2 : Hid (GBox _ (w.heap.size) (⟨33, s, nx, .slice p n c, .slice ps ns cs, .slice pw nw cw⟩)) := Lib.hid (GBox.below (by repeat (first | with_reducible exact K2.out | with_reducible apply GBox.drewN | with_reducible apply GBox.drew | (with_reducible refine GBox.newAt ?_ ?_ <;> first | (simp; done) | rfl) | with_reducible apply GBox.alloc)) b)
        have K3 : Hid (CBox _ (w.heap.size + 1) (⟨61, cl⟩)) := Lib.hid (CBox.below (by repeat (first | with_reducible exact K3.out | with_reducible apply CBox.drewN | with_reducible apply CBox.drew | (with_reducible refine CBox.newAt ?_ ?_ <;> first | (simp; done) | rfl) | with_reducible apply CBox.alloc)) b)
        try clear k2a k2b k2c k2d k2e k2z
        have k2z := K2.out.lt
        obtain ⟨k2a, k2b, k2c, k2d, k2e⟩ := K2.out.cell
        try clear k3a k3b k3c k3d k3z
        have k3z := K3.out.lt
        obtain ⟨k3a, k3b, k3c, k3d⟩ := K3.out.cell
        clear b
        go_wp2_with fail
        refine ((HOt.out _)).mono ?_
        rintro e w3 ⟨rfl, b⟩
        have Sw3 := Lib.hid b.size
        have HB := Lib.hid (chain0 (w := w) (by repeat (first | with_reducible exact Below.refl _ _ | with_reducible exact HB.out | with_reducible apply Below.drew | with_reducible apply bdN | with_reducible refine Below.alloc ?_ (by first | exact Nat.le_refl _ | with_reducible exact HB.out.size | omega | (simp; done) | (simp; omega) | (have := HB.out.size; simp at *; omega)) _)) b)
        have HR := Lib.hid (Rd.below (by repeat (first | with_reducible exact HR.out | with_reducible apply Rd.drewN | with_reducible apply Rd.drew | with_reducible apply Rd.alloc)) b)
        have K2 : Hid (GBox _ (w.heap.size) (⟨33, s, nx, .slice p n c, .slice ps ns cs, .slice pw nw cw⟩)) := Lib.hid (GBox.below (by repeat (first | with_reducible exact K2.out | with_reducible apply GBox.drewN | with_reducible apply GBox.drew | (with_reducible refine GBox.newAt ?_ ?_ <;> first | (simp; done) | rfl) | with_reducible apply GBox.alloc)) b)
        have K3 : Hid (CBox _ (w.heap.size + 1) (⟨61, cl⟩)) := Lib.hid (CBox.below (by repeat (first | with_reducible exact K3.out | with_reducible apply CBox.drewN | with_reducible apply CBox.drew | (with_reducible refine CBox.newAt ?_ ?_ <;> first | (simp; done) | rfl) | with_reducible apply CBox.alloc)) b)
        try clear k2a k2b k2c k2d k2e k2z
        have k2z := K2.out.lt
        obtain ⟨k2a, k2b, k2c, k2d, k2e⟩ := K2.out.cell
        try clear k3a k3b k3c k3d k3z
        have k3z := K3.out.lt
        obtain ⟨k3a, k3b, k3c, k3d⟩ := K3.out.cell
        clear b
        go_wp2_with fail
        go_ret
        exact ⟨rfl, by repeat (first | with_reducible exact Below.refl _ _ | with_reducible exact HB.out | with_reducible apply Below.drew | with_reducible apply bdN | with_reducible refine Below.alloc ?_ (by first | exact Nat.le_refl _ | with_reducible exact HB.out.size | omega | (simp; done) | (simp; omega) | (have := HB.out.size; simp at *; omega)) _)⟩
      · have HT := Lib.hid (kind_w H1.out H2.out (by rw [HN.out]; exact H3.out))
        rw [HT.out]
        go_enter Try.func81, Try.ntmps81
        go_upto_region 2 with fail
        obtain ⟨w0, ew, b⟩ : ∃ wOPN : World, wOPN = ((w.alloc (Gv.obj ⟨33, s, nx, .slice p n c, .slice ps ns cs, .slice pw nw cw⟩)).alloc (Cv.obj ⟨61, cl⟩)) ∧ Below (((w.alloc (Gv.obj ⟨33, s, nx, .slice p n c, .slice ps ns cs, .slice pw nw cw⟩)).alloc (Cv.obj ⟨61, cl⟩))).heap.size (((w.alloc (Gv.obj ⟨33, s, nx, .slice p n c, .slice ps ns cs, .slice pw nw cw⟩)).alloc (Cv.obj ⟨61, cl⟩))) wOPN := ⟨_, rfl, Below.refl _ _⟩
        rw [← ew]
        clear ew
        have Sw0 := Lib.hid b.size
        have HB := Lib.hid (chain0 (w := w) (by repeat (first | with_reducible exact Below.refl _ _ | with_reducible exact HB.out | with_reducible apply Below.drew | with_reducible apply bdN | with_reducible refine Below.alloc ?_ (by first | exact Nat.le_refl _ | with_reducible exact HB.out.size | omega | (simp; done) | (simp; omega) | (have := HB.out.size; simp at *; omega)) _)) b)
        have HR := Lib.hid (Rd.below (by repeat (first | with_reducible exact HR.out | with_reducible apply Rd.drewN | with_reducible apply Rd.drew | with_reducible apply Rd.alloc)) b)
        have K2 : Hid (GBox _ (w.heap.size) (⟨33, s, nx, .slice p n c, .slice ps ns cs, .slice pw nw cw⟩)) := Lib.hid (GBox.below (by repeat (first | with_reducible exact K2.out | with_reducible apply GBox.drewN | with_reducible apply GBox.drew | (with_reducible refine GBox.newAt ?_ ?_ <;> first | (simp; done) | rfl) | with_reducible apply GBox.alloc)) b)
        have K3 : Hid (CBox _ (w.heap.size + 1) (⟨61, cl⟩)) := Lib.hid (CBox.below (by repeat (first | with_reducible exact K3.out | with_reducible apply CBox.drewN | with_reducible apply CBox.drew | (with_reducible refine CBox.newAt ?_ ?_ <;> first | (simp; done) | rfl) | with_reducible apply CBox.alloc)) b)
        try clear k2a k2b k2c k2d k2e k2z
        have k2z := K2.out.lt
        obtain ⟨k2a, k2b, k2c, k2d, k2e⟩ := K2.out.cell
        try clear k3a k3b k3c k3d k3z
        have k3z := K3.out.lt
        obtain ⟨k3a, k3b, k3c, k3d⟩ := K3.out.cell
        clear b
        go_wp2_with fail
        refine ((HRi.out _ HR.out)).mono ?_
        rintro e w1 ⟨rfl, b⟩
        have Sw1 := Lib.hid b.size
        have HB := Lib.hid (chain0 (w := w) (by repeat (first | with_reducible exact Below.refl _ _ | with_reducible exact HB.out | with_reducible apply Below.drew | with_reducible apply bdN | with_reducible refine Below.alloc ?_ (by first | exact Nat.le_refl _ | with_reducible exact HB.out.size | omega | (simp; done) | (simp; omega) | (have := HB.out.size; simp at *; omega)) _)) b)
        have HR := Lib.hid (Rd.below (by repeat (first | with_reducible exact HR.out | with_reducible apply Rd.drewN | with_reducible apply Rd.drew | with_reducible apply Rd.alloc)) b)
        have K2 : Hid (GBox _ (w.heap.size) (⟨33, s, nx, .slice p n c, .slice ps ns cs, .slice pw nw cw⟩)) := Lib.hid (GBox.below (by repeat (first | with_reducible exact K2.out | with_reducible apply GBox.drewN | with_reducible apply GBox.drew | (with_reducible refine GBox.newAt ?_ ?_ <;> first | (simp; done) | rfl) | with_reducible apply GBox.alloc)) b)
        have K3 : Hid (CBox _ (w.heap.size + 1) (⟨61, cl⟩)) := Lib.hid (CBox.below (by repeat (first | with_reducible exact K3.out | with_reducible apply CBox.drewN | with_reducible apply CBox.drew | (with_reducible refine CBox.newAt ?_ ?_ <;> first | (simp; done) | rfl) | with_reducible apply CBox.alloc)) b)
        try clear k2a k2b k2c k2d k2e k2z
        have k2z := K2.out.lt
        obtain ⟨k2a, k2b, k2c, k2d, k2e⟩ := K2.out.cell
        try clear k3a k3b k3c k3d k3z
        have k3z := K3.out.lt
        obtain ⟨k3a, k3b, k3c, k3d⟩ := K3.out.cell
        clear b
        go_wp2_with fail
        refine ((HPl.out _)).mono ?_
        rintro e w2 ⟨rfl, b⟩
        have Sw2 := Lib.hid b.size
        have HB := Lib.hid (chain0 (w := w) (by repeat (first | with_reducible exact Below.refl _ _ | with_reducible exact HB.out | with_reducible apply Below.drew | with_reducible apply bdN | with_reducible refine Below.alloc ?_ (by first | exact Nat.le_refl _ | with_reducible exact HB.out.size | omega | (simp; done) | (simp; omega) | (have := HB.out.size; simp at *; omega)) _)) b)
        have HR := Lib.hid (Rd.below (by repeat (first | with_reducible exact HR.out | with_reducible apply Rd.drewN | with_reducible apply Rd.drew | with_reducible apply Rd.alloc)) b)
        have K2 : Hid (GBox _ (w.heap.size) (⟨33, s, nx, .slice p n c, .slice ps ns cs, .slice pw nw cw⟩)) := Lib.hid (GBox.below (by repeat (first | with_reducible exact K2.out | with_reducible apply GBox.drewN | with_reducible apply GBox.drew | (with_reducible refine GBox.newAt ?_ ?_ <;> first | (simp; done) | rfl) | with_reducible apply GBox.alloc)) b)
        have K3 : Hid (CBox _ (w.heap.size + 1) (⟨61, cl⟩)) := Lib.hid (CBox.below (by repeat (first | with_reducible exact K3.out | with_reducible apply CBox.drewN | with_reducible apply CBox.drew | (with_reducible refine CBox.newAt ?_ ?_ <;> first | (simp; done) | rfl) | with_reducible apply CBox.alloc)) b)
        try clear k2a k2b k2c k2d k2e k2z
        have k2z := K2.out.lt
        obtain ⟨k2a, k2b, k2c, k2d, k2e⟩ := K2.out.cell
        try clear k3a k3b k3c k3d k3z
        have k3z := K3.out.lt
        obtain ⟨k3a, k3b, k3c, k3d⟩ := K3.out.cell
        clear b
        go_wp2_with fail
        refine ((HOt.out _)).mono ?_
        rintro e w3 ⟨rfl, b⟩
        have Sw3 := Lib.hid b.size
        have HB := Lib.hid (chain0 (w := w) (by repeat (first | with_reducible exact Below.refl _ _ | with_reducible exact HB.out | with_reducible apply Below.drew | with_reducible apply bdN | with_reducible refine Below.alloc ?_ (by first | exact Nat.le_refl _ | with_reducible exact HB.out.size | omega | (simp; done) | (simp; omega) | (have := HB.out.size; simp at *; omega)) _)) b)
        have HR := Lib.hid (Rd.below (by repeat (first | with_reducible exact HR.out | with_reducible apply Rd.drewN | with_reducible apply Rd.drew | with_reducible apply Rd.alloc)) b)
        have K2 : Hid (GBox _ (w.heap.size) (⟨33, s, nx, .slice p n c, .slice ps ns cs, .slice pw nw cw⟩)) := Lib.hid (GBox.below (by repeat (first | with_reducible exact K2.out | with_reducible apply GBox.drewN | with_reducible apply GBox.drew | (with_reducible refine GBox.newAt ?_ ?_ <;> first | (simp; done) | rfl) | with_reducible apply GBox.alloc)) b)
        have K3 : Hid (CBox _ (w.heap.size + 1) (⟨61, cl⟩)) := Lib.hid (CBox.below (by repeat (first | with_reducible exact K3.out | with_reducible apply CBox.drewN | with_reducible apply CBox.drew | (with_reducible refine CBox.newAt ?_ ?_ <;> first | (simp; done) | rfl) | with_reducible apply CBox.alloc)) b)
        try clear k2a k2b k2c k2d k2e k2z
        have k2z := K2.out.lt
        obtain ⟨k2a, k2b, k2c, k2d, k2e⟩ := K2.out.cell
        try clear k3a k3b k3c k3d k3z
        have k3z := K3.out.lt
        obtain ⟨k3a, k3b, k3c, k3d⟩ := K3.out.cell
        clear b
        go_wp2_with fail
        go_ret
        exact ⟨rfl, by repeat (first | with_reducible exact Below.refl _ _ | with_reducible exact HB.out | with_reducible apply Below.drew | with_reducible apply bdN | with_reducible refine Below.alloc ?_ (by first | exact Nat.le_refl _ | with_reducible exact HB.out.size | omega | (simp; done) | (simp; omega) | (have := HB.out.size; simp at *; omega)) _)⟩
  · have HT := Lib.hid (kind_r H1.out)
    rw [HT.out]
    go_enter Try.func81, Try.ntmps81
    go_upto_region 2 with fail
    obtain ⟨w0, ew, b⟩ : ∃ wOPN : World, wOPN = ((w.alloc (Gv.obj ⟨33, s, nx, .slice p n c, .slice ps ns cs, .slice pw nw cw⟩)).alloc (Cv.obj ⟨61, cl⟩)) ∧ Below (((w.alloc (Gv.obj ⟨33, s, nx, .slice p n c, .slice ps ns cs, .slice pw nw cw⟩)).alloc (Cv.obj ⟨61, cl⟩))).heap.size (((w.alloc (Gv.obj ⟨33, s, nx, .slice p n c, .slice ps ns cs, .slice pw nw cw⟩)).alloc (Cv.obj ⟨61, cl⟩))) wOPN := ⟨_, rfl, Below.refl _ _⟩
    rw [← ew]
    clear ew
    have Sw0 := Lib.hid b.size
    have HB := Lib.hid (chain0 (w := w) (by repeat (first | with_reducible exact Below.refl _ _ | with_reducible exact HB.out | with_reducible apply Below.drew | with_reducible apply bdN | with_reducible refine Below.alloc ?_ (by first | exact Nat.le_refl _ | with_reducible exact HB.out.size | omega | (simp; done) | (simp; omega) | (have := HB.out.size; simp at *; omega)) _)) b)
    have HR := Lib.hid (Rd.below (by repeat (first | with_reducible exact HR.out | with_reducible apply Rd.drewN | with_reducible apply Rd.drew | with_reducible apply Rd.alloc)) b)
    have K2 : Hid (GBox _ (w.heap.size) (⟨33, s, nx, .slice p n c, .slice ps ns cs, .slice pw nw cw⟩)) := Lib.hid (GBox.below (by repeat (first | with_reducible exact K2.out | with_reducible apply GBox.drewN | with_reducible apply GBox.drew | (with_reducible refine GBox.newAt ?_ ?_ <;> first | (simp; done) | rfl) | with_reducible apply GBox.alloc)) b)
    have K3 : Hid (CBox _ (w.heap.size + 1) (⟨61, cl⟩)) := Lib.hid (CBox.below (by repeat (first | with_reducible exact K3.out | with_reducible apply CBox.drewN | with_reducible apply CBox.drew | (with_reducible refine CBox.newAt ?_ ?_ <;> first | (simp; done) | rfl) | with_reducible apply CBox.alloc)) b)
    try clear k2a k2b k2c k2d k2e k2z
    have k2z := K2.out.lt
    obtain ⟨k2a, k2b, k2c, k2d, k2e⟩ := K2.out.cell
    try clear k3a k3b k3c k3d k3z
    have k3z := K3.out.lt
    obtain ⟨k3a, k3b, k3c, k3d⟩ := K3.out.cell
    clear b
    go_wp2_with fail
    refine ((HRi.out _ HR.out)).mono ?_
    rintro e w1 ⟨rfl, b⟩
    have Sw1 := Lib.hid b.size
    have HB := Lib.hid (chain0 (w := w) (by repeat (first | with_reducible exact Below.refl _ _ | with_reducible exact HB.out | with_reducible apply Below.drew | with_reducible apply bdN | with_reducible refine Below.alloc ?_ (by first | exact Nat.le_refl _ | with_reducible exact HB.out.size | omega | (simp; done) | (simp; omega) | (have := HB.out.size; simp at *; omega)) _)) b)
    have HR := Lib.hid (Rd.below (by repeat (first | with_reducible exact HR.out | with_reducible apply Rd.drewN | with_reducible apply Rd.drew | with_reducible apply Rd.alloc)) b)
    have K2 : Hid (GBox _ (w.heap.size) (⟨33, s, nx, .slice p n c, .slice ps ns cs, .slice pw nw cw⟩)) := Lib.hid (GBox.below (by repeat (first | with_reducible exact K2.out | with_reducible apply GBox.drewN | with_reducible apply GBox.drew | (with_reducible refine GBox.newAt ?_ ?_ <;> first | (simp; done) | rfl) | with_reducible apply GBox.alloc)) b)
    have K3 : Hid (CBox _ (w.heap.size + 1) (⟨61, cl⟩)) := Lib.hid (CBox.below (by repeat (first | with_reducible exact K3.out | with_reducible apply CBox.drewN | with_reducible apply CBox.drew | (with_reducible refine CBox.newAt ?_ ?_ <;> first | (simp; done) | rfl) | with_reducible apply CBox.alloc)) b)
    try clear k2a k2b k2c k2d k2e k2z
    have k2z := K2.out.lt
    obtain ⟨k2a, k2b, k2c, k2d, k2e⟩ := K2.out.cell
    try clear k3a k3b k3c k3d k3z
    have k3z := K3.out.lt
    obtain ⟨k3a, k3b, k3c, k3d⟩ := K3.out.cell
    clear b
    go_wp2_with fail
    go_ret
    exact ⟨rfl, by repeat (first | with_reducible exact Below.refl _ _ | with_reducible exact HB.out | with_reducible apply Below.drew | with_reducible apply bdN | with_reducible refine Below.alloc ?_ (by first | exact Nat.le_refl _ | with_reducible exact HB.out.size | omega | (simp; done) | (simp; omega) | (have := HB.out.size; simp at *; omega)) _)⟩

/-! The model. -/
theorem right_p {l : List Cd} {ns : Nat} {c : Cd} (h : isP ns c.a = true) : rightB l ns c = has3 (lines l) (plc c) := by unfold rightB; rw [h]; rfl
theorem right_np {l : List Cd} {ns : Nat} {c : Cd} (h : isP ns c.a = false) : rightB l ns c = false := by unfold rightB; rw [h]; rfl

set_option maxRecDepth 100000 in
set_option maxHeartbeats 8000000 in
theorem l8_kind (s nx : Int) (l : List Cd) (cl : Cd) (p ps pw : Option Addr) (n c ns cs nw cw : Nat) (w : World) (hn : l.length = n) (hl : n ≤ 81) (hns : ns ≤ 1000) (hr : Rd w p (flat l)) (hok : l.all Cd.ok = true) (hd : l.Nodup) (hw : wfc cl) :
    Calls Try.prog 54 #[gval s nx (.slice p n c) (.slice ps ns cs) (.slice pw nw cw), cl.val] w fun e w' => e = .returned (.int .i64 (kind l ns cl)) ∧ Below w.heap.size w w' := by
  have HR := Lib.hid hr
  have HN := Lib.hid hn
  have HPl := Lib.hid (fun w => l1_in cl.a 0 ((ns : Int) - 1) w)
  have HPe : Hid (decide (0 ≤ cl.a ∧ cl.a ≤ (ns : Int) - 1) = isP ns cl.a) := Lib.hid (by unfold isP; rw [Bool.eq_iff_iff, decide_eq_true_eq, decide_eq_true_eq]; omega)
  rw [HPe.out] at HPl
  have hwr : IntKind.i64.wrap ((ns : Int) - 1) = (ns : Int) - 1 := IntWalk.i64_in _ (by omega)
  have hwn : IntKind.i64.wrap ((n : Int) - 1) = (n : Int) - 1 := IntWalk.i64_in _ (by omega)
  have HLi := Lib.hid (fun w h => l4_line s nx l (plc cl) p n c w hn hl h hok hd ⟨hw.2.1, hw.2.2.1, hw.2.2.2⟩)
  obtain ⟨b2, hb2⟩ : ∃ b2, isP ns cl.a = b2 := ⟨_, rfl⟩
  rw [hb2] at HPl
  have H2 := Lib.hid hb2
  obtain ⟨b1, hb1⟩ : ∃ b1, has3 (lines l) (plc cl) = b1 := ⟨_, rfl⟩
  rw [hb1] at HLi
  have H1 := Lib.hid hb1
  have K3 : Hid (CBox ((w.alloc (Gv.obj ⟨33, s, nx, .slice p n c, .slice ps ns cs, .slice pw nw cw⟩)).alloc (Cv.obj ⟨61, cl⟩)) (w.heap.size + 1) ⟨61, cl⟩) := Lib.hid (CBox.newAt (by simp) rfl)
  clear hr hn hok hd hw hb1 hb2
  cases b2
  · have HT := Lib.hid (kind_i (l := l) (right_np H2.out) (by rw [H2.out]; rfl))
    rw [HT.out]
    go_enter Try.func54, Try.ntmps54
    go_upto_region 1 with fail
    obtain ⟨w0, ew, b⟩ : ∃ wOPN : World, wOPN = ((w.alloc (Gv.obj ⟨33, s, nx, .slice p n c, .slice ps ns cs, .slice pw nw cw⟩)).alloc (Cv.obj ⟨61, cl⟩)) ∧ Below (((w.alloc (Gv.obj ⟨33, s, nx, .slice p n c, .slice ps ns cs, .slice pw nw cw⟩)).alloc (Cv.obj ⟨61, cl⟩))).heap.size (((w.alloc (Gv.obj ⟨33, s, nx, .slice p n c, .slice ps ns cs, .slice pw nw cw⟩)).alloc (Cv.obj ⟨61, cl⟩))) wOPN := ⟨_, rfl, Below.refl _ _⟩
    rw [← ew]
    clear ew
    have Sw0 := Lib.hid b.size
    have HB := Lib.hid (chain0 (w := w) (by repeat (first | with_reducible exact Below.refl _ _ | with_reducible exact HB.out | with_reducible apply Below.drew | with_reducible apply bdN | with_reducible refine Below.alloc ?_ (by first | exact Nat.le_refl _ | with_reducible exact HB.out.size | omega | (simp; done) | (simp; omega) | (have := HB.out.size; simp at *; omega)) _)) b)
    have HR := Lib.hid (Rd.below (by repeat (first | with_reducible exact HR.out | with_reducible apply Rd.drewN | with_reducible apply Rd.drew | with_reducible apply Rd.alloc)) b)
    have K2 : Hid (GBox _ (w.heap.size) (⟨33, s, nx, .slice p n c, .slice ps ns cs, .slice pw nw cw⟩)) := Lib.hid (GBox.below (by repeat (first | with_reducible exact K2.out | with_reducible apply GBox.drewN | with_reducible apply GBox.drew | (with_reducible refine GBox.newAt ?_ ?_ <;> first | (simp; done) | rfl) | with_reducible apply GBox.alloc)) b)
    have K3 : Hid (CBox _ (w.heap.size + 1) (⟨61, cl⟩)) := Lib.hid (CBox.below (by repeat (first | with_reducible exact K3.out | with_reducible apply CBox.drewN | with_reducible apply CBox.drew | (with_reducible refine CBox.newAt ?_ ?_ <;> first | (simp; done) | rfl) | with_reducible apply CBox.alloc)) b)
    try clear k2a k2b k2c k2d k2e k2z
    have k2z := K2.out.lt
    obtain ⟨k2a, k2b, k2c, k2d, k2e⟩ := K2.out.cell
    try clear k3a k3b k3c k3d k3z
    have k3z := K3.out.lt
    obtain ⟨k3a, k3b, k3c, k3d⟩ := K3.out.cell
    clear b
    go_wp2_with fail
    refine ((HPl.out _)).mono ?_
    rintro e w1 ⟨rfl, b⟩
    have Sw1 := Lib.hid b.size
    have HB := Lib.hid (chain0 (w := w) (by repeat (first | with_reducible exact Below.refl _ _ | with_reducible exact HB.out | with_reducible apply Below.drew | with_reducible apply bdN | with_reducible refine Below.alloc ?_ (by first | exact Nat.le_refl _ | with_reducible exact HB.out.size | omega | (simp; done) | (simp; omega) | (have := HB.out.size; simp at *; omega)) _)) b)
    have HR := Lib.hid (Rd.below (by repeat (first | with_reducible exact HR.out | with_reducible apply Rd.drewN | with_reducible apply Rd.drew | with_reducible apply Rd.alloc)) b)
    have K2 : Hid (GBox _ (w.heap.size) (⟨33, s, nx, .slice p n c, .slice ps ns cs, .slice pw nw cw⟩)) := Lib.hid (GBox.below (by repeat (first | with_reducible exact K2.out | with_reducible apply GBox.drewN | with_reducible apply GBox.drew | (with_reducible refine GBox.newAt ?_ ?_ <;> first | (simp; done) | rfl) | with_reducible apply GBox.alloc)) b)
    have K3 : Hid (CBox _ (w.heap.size + 1) (⟨61, cl⟩)) := Lib.hid (CBox.below (by repeat (first | with_reducible exact K3.out | with_reducible apply CBox.drewN | with_reducible apply CBox.drew | (with_reducible refine CBox.newAt ?_ ?_ <;> first | (simp; done) | rfl) | with_reducible apply CBox.alloc)) b)
    try clear k2a k2b k2c k2d k2e k2z
    have k2z := K2.out.lt
    obtain ⟨k2a, k2b, k2c, k2d, k2e⟩ := K2.out.cell
    try clear k3a k3b k3c k3d k3z
    have k3z := K3.out.lt
    obtain ⟨k3a, k3b, k3c, k3d⟩ := K3.out.cell
    clear b
    go_wp2_with fail
    go_ret
    exact ⟨rfl, by repeat (first | with_reducible exact Below.refl _ _ | with_reducible exact HB.out | with_reducible apply Below.drew | with_reducible apply bdN | with_reducible refine Below.alloc ?_ (by first | exact Nat.le_refl _ | with_reducible exact HB.out.size | omega | (simp; done) | (simp; omega) | (have := HB.out.size; simp at *; omega)) _)⟩
  · cases b1
    · have HRn := Lib.hid ((right_p (l := l) H2.out).trans H1.out)
      by_cases hi0 : 0 ≤ cl.b ∧ cl.b ≤ (n : Int) - 1
      · by_cases hi1 : 0 ≤ cl.c ∧ cl.c ≤ (n : Int) - 1
        · by_cases ho1 : cl.b < cl.c
          · by_cases hi2 : 0 ≤ cl.d ∧ cl.d ≤ (n : Int) - 1
            · by_cases ho2 : cl.c < cl.d
              · skip
                have HC0 := Lib.hid (show ∀ w, Calls Try.prog 47 #[.int .i64 cl.b, .int .i64 0, .int .i64 ((n : Int) - 1)] w fun e w' => e = .returned (.bool true) ∧ Below w.heap.size w w' from fun w => by have h := l1_in cl.b 0 ((n : Int) - 1) w; rwa [decide_eq_true hi0] at h)
                have HC1 := Lib.hid (show ∀ w, Calls Try.prog 47 #[.int .i64 cl.c, .int .i64 0, .int .i64 ((n : Int) - 1)] w fun e w' => e = .returned (.bool true) ∧ Below w.heap.size w w' from fun w => by have h := l1_in cl.c 0 ((n : Int) - 1) w; rwa [decide_eq_true hi1] at h)
                have HC2 := Lib.hid (show ∀ w, Calls Try.prog 47 #[.int .i64 cl.d, .int .i64 0, .int .i64 ((n : Int) - 1)] w fun e w' => e = .returned (.bool true) ∧ Below w.heap.size w w' from fun w => by have h := l1_in cl.d 0 ((n : Int) - 1) w; rwa [decide_eq_true hi2] at h)
                have HT := Lib.hid (kind_w (l := l) HRn.out H2.out (by unfold onT plc; rw [HN.out]; exact decide_eq_true (by simp only; omega)))
                rw [HT.out]
                go_enter Try.func54, Try.ntmps54
                go_upto_region 1 with fail
                obtain ⟨w0, ew, b⟩ : ∃ wOPN : World, wOPN = ((w.alloc (Gv.obj ⟨33, s, nx, .slice p n c, .slice ps ns cs, .slice pw nw cw⟩)).alloc (Cv.obj ⟨61, cl⟩)) ∧ Below (((w.alloc (Gv.obj ⟨33, s, nx, .slice p n c, .slice ps ns cs, .slice pw nw cw⟩)).alloc (Cv.obj ⟨61, cl⟩))).heap.size (((w.alloc (Gv.obj ⟨33, s, nx, .slice p n c, .slice ps ns cs, .slice pw nw cw⟩)).alloc (Cv.obj ⟨61, cl⟩))) wOPN := ⟨_, rfl, Below.refl _ _⟩
                rw [← ew]
                clear ew
                have Sw0 := Lib.hid b.size
                have HB := Lib.hid (chain0 (w := w) (by repeat (first | with_reducible exact Below.refl _ _ | with_reducible exact HB.out | with_reducible apply Below.drew | with_reducible apply bdN | with_reducible refine Below.alloc ?_ (by first | exact Nat.le_refl _ | with_reducible exact HB.out.size | omega | (simp; done) | (simp; omega) | (have := HB.out.size; simp at *; omega)) _)) b)
                have HR := Lib.hid (Rd.below (by repeat (first | with_reducible exact HR.out | with_reducible apply Rd.drewN | with_reducible apply Rd.drew | with_reducible apply Rd.alloc)) b)
                have K2 : Hid (GBox _ (w.heap.size) (⟨33, s, nx, .slice p n c, .slice ps ns cs, .slice pw nw cw⟩)) := Lib.hid (GBox.below (by repeat (first | with_reducible exact K2.out | with_reducible apply GBox.drewN | with_reducible apply GBox.drew | (with_reducible refine GBox.newAt ?_ ?_ <;> first | (simp; done) | rfl) | with_reducible apply GBox.alloc)) b)
                have K3 : Hid (CBox _ (w.heap.size + 1) (⟨61, cl⟩)) := Lib.hid (CBox.below (by repeat (first | with_reducible exact K3.out | with_reducible apply CBox.drewN | with_reducible apply CBox.drew | (with_reducible refine CBox.newAt ?_ ?_ <;> first | (simp; done) | rfl) | with_reducible apply CBox.alloc)) b)
                try clear k2a k2b k2c k2d k2e k2z
                have k2z := K2.out.lt
                obtain ⟨k2a, k2b, k2c, k2d, k2e⟩ := K2.out.cell
                try clear k3a k3b k3c k3d k3z
                have k3z := K3.out.lt
                obtain ⟨k3a, k3b, k3c, k3d⟩ := K3.out.cell
                clear b
                go_wp2_with fail
                refine ((HPl.out _)).mono ?_
                rintro e w1 ⟨rfl, b⟩
                have Sw1 := Lib.hid b.size
                have HB := Lib.hid (chain0 (w := w) (by repeat (first | with_reducible exact Below.refl _ _ | with_reducible exact HB.out | with_reducible apply Below.drew | with_reducible apply bdN | with_reducible refine Below.alloc ?_ (by first | exact Nat.le_refl _ | with_reducible exact HB.out.size | omega | (simp; done) | (simp; omega) | (have := HB.out.size; simp at *; omega)) _)) b)
                have HR := Lib.hid (Rd.below (by repeat (first | with_reducible exact HR.out | with_reducible apply Rd.drewN | with_reducible apply Rd.drew | with_reducible apply Rd.alloc)) b)
                have K2 : Hid (GBox _ (w.heap.size) (⟨33, s, nx, .slice p n c, .slice ps ns cs, .slice pw nw cw⟩)) := Lib.hid (GBox.below (by repeat (first | with_reducible exact K2.out | with_reducible apply GBox.drewN | with_reducible apply GBox.drew | (with_reducible refine GBox.newAt ?_ ?_ <;> first | (simp; done) | rfl) | with_reducible apply GBox.alloc)) b)
                have K3 : Hid (CBox _ (w.heap.size + 1) (⟨61, cl⟩)) := Lib.hid (CBox.below (by repeat (first | with_reducible exact K3.out | with_reducible apply CBox.drewN | with_reducible apply CBox.drew | (with_reducible refine CBox.newAt ?_ ?_ <;> first | (simp; done) | rfl) | with_reducible apply CBox.alloc)) b)
                try clear k2a k2b k2c k2d k2e k2z
                have k2z := K2.out.lt
                obtain ⟨k2a, k2b, k2c, k2d, k2e⟩ := K2.out.cell
                try clear k3a k3b k3c k3d k3z
                have k3z := K3.out.lt
                obtain ⟨k3a, k3b, k3c, k3d⟩ := K3.out.cell
                clear b
                go_wp2_with fail
                refine ((HLi.out _ HR.out)).mono ?_
                rintro e w2 ⟨rfl, b⟩
                have Sw2 := Lib.hid b.size
                have HB := Lib.hid (chain0 (w := w) (by repeat (first | with_reducible exact Below.refl _ _ | with_reducible exact HB.out | with_reducible apply Below.drew | with_reducible apply bdN | with_reducible refine Below.alloc ?_ (by first | exact Nat.le_refl _ | with_reducible exact HB.out.size | omega | (simp; done) | (simp; omega) | (have := HB.out.size; simp at *; omega)) _)) b)
                have HR := Lib.hid (Rd.below (by repeat (first | with_reducible exact HR.out | with_reducible apply Rd.drewN | with_reducible apply Rd.drew | with_reducible apply Rd.alloc)) b)
                have K2 : Hid (GBox _ (w.heap.size) (⟨33, s, nx, .slice p n c, .slice ps ns cs, .slice pw nw cw⟩)) := Lib.hid (GBox.below (by repeat (first | with_reducible exact K2.out | with_reducible apply GBox.drewN | with_reducible apply GBox.drew | (with_reducible refine GBox.newAt ?_ ?_ <;> first | (simp; done) | rfl) | with_reducible apply GBox.alloc)) b)
                have K3 : Hid (CBox _ (w.heap.size + 1) (⟨61, cl⟩)) := Lib.hid (CBox.below (by repeat (first | with_reducible exact K3.out | with_reducible apply CBox.drewN | with_reducible apply CBox.drew | (with_reducible refine CBox.newAt ?_ ?_ <;> first | (simp; done) | rfl) | with_reducible apply CBox.alloc)) b)
                try clear k2a k2b k2c k2d k2e k2z
                have k2z := K2.out.lt
                obtain ⟨k2a, k2b, k2c, k2d, k2e⟩ := K2.out.cell
                try clear k3a k3b k3c k3d k3z
                have k3z := K3.out.lt
                obtain ⟨k3a, k3b, k3c, k3d⟩ := K3.out.cell
                clear b
                go_wp2_with fail
                refine wp_loop_rounds 4 ?_
                rw [rounds_succ]
                go_wp2_with fail
                have qk2a := fun d os => cell_regrown k2a d os
                have qk2b := fun d os => cell_regrown k2b d os
                have qk2c := fun d os => cell_regrown k2c d os
                have qk2d := fun d os => cell_regrown k2d d os
                have qk2e := fun d os => cell_regrown k2e d os
                have qk3a := fun d os => cell_regrown k3a d os
                have qk3b := fun d os => cell_regrown k3b d os
                have qk3c := fun d os => cell_regrown k3c d os
                have qk3d := fun d os => cell_regrown k3d d os
                refine wp_region_quiet_below (by kernel_rfl) (by kernel_rfl) ?_
                repeat (first | go_big_quiet_step ((go_at_call 47; first | with_reducible exact Calls.regrown_of (HC0.out _))) | quiet_step ((go_at_call 47; first | with_reducible exact Calls.regrown_of (HC0.out _))))
                refine wpQuiet_nil ?_
                intro v0 hw2
                have b : Below w2.heap.size w2 v0 := by obtain ⟨r, hr⟩ := hw2; rw [hr]; exact below_regrown _ _ _
                clear hw2 qk2a qk2b qk2c qk3a qk3b qk3c
                have Sv0 := Lib.hid b.size
                have HB := Lib.hid (chain0 (w := w) (by repeat (first | with_reducible exact Below.refl _ _ | with_reducible exact HB.out | with_reducible apply Below.drew | with_reducible apply bdN | with_reducible refine Below.alloc ?_ (by first | exact Nat.le_refl _ | with_reducible exact HB.out.size | omega | (simp; done) | (simp; omega) | (have := HB.out.size; simp at *; omega)) _)) b)
                have HR := Lib.hid (Rd.below (by repeat (first | with_reducible exact HR.out | with_reducible apply Rd.drewN | with_reducible apply Rd.drew | with_reducible apply Rd.alloc)) b)
                have K2 : Hid (GBox _ (w.heap.size) (⟨33, s, nx, .slice p n c, .slice ps ns cs, .slice pw nw cw⟩)) := Lib.hid (GBox.below (by repeat (first | with_reducible exact K2.out | with_reducible apply GBox.drewN | with_reducible apply GBox.drew | (with_reducible refine GBox.newAt ?_ ?_ <;> first | (simp; done) | rfl) | with_reducible apply GBox.alloc)) b)
                have K3 : Hid (CBox _ (w.heap.size + 1) (⟨61, cl⟩)) := Lib.hid (CBox.below (by repeat (first | with_reducible exact K3.out | with_reducible apply CBox.drewN | with_reducible apply CBox.drew | (with_reducible refine CBox.newAt ?_ ?_ <;> first | (simp; done) | rfl) | with_reducible apply CBox.alloc)) b)
                try clear k2a k2b k2c k2d k2e k2z
                have k2z := K2.out.lt
                obtain ⟨k2a, k2b, k2c, k2d, k2e⟩ := K2.out.cell
                try clear k3a k3b k3c k3d k3z
                have k3z := K3.out.lt
                obtain ⟨k3a, k3b, k3c, k3d⟩ := K3.out.cell
                clear b
                go_wp2_with fail
                rw [rounds_succ]
                go_wp2_with fail
                have qk2a := fun d os => cell_regrown k2a d os
                have qk2b := fun d os => cell_regrown k2b d os
                have qk2c := fun d os => cell_regrown k2c d os
                have qk2d := fun d os => cell_regrown k2d d os
                have qk2e := fun d os => cell_regrown k2e d os
                have qk3a := fun d os => cell_regrown k3a d os
                have qk3b := fun d os => cell_regrown k3b d os
                have qk3c := fun d os => cell_regrown k3c d os
                have qk3d := fun d os => cell_regrown k3d d os
                refine wp_region_quiet_below (by kernel_rfl) (by kernel_rfl) ?_
                repeat (first | go_big_quiet_step ((go_at_call 47; first | with_reducible exact Calls.regrown_of (HC0.out _) | with_reducible exact Calls.regrown_of (HC1.out _))) | quiet_step ((go_at_call 47; first | with_reducible exact Calls.regrown_of (HC0.out _) | with_reducible exact Calls.regrown_of (HC1.out _))))
                refine wpQuiet_nil ?_
                intro v1 hw2
                have b : Below v0.heap.size v0 v1 := by obtain ⟨r, hr⟩ := hw2; rw [hr]; exact below_regrown _ _ _
                clear hw2 qk2a qk2b qk2c qk3a qk3b qk3c
                have Sv1 := Lib.hid b.size
                have HB := Lib.hid (chain0 (w := w) (by repeat (first | with_reducible exact Below.refl _ _ | with_reducible exact HB.out | with_reducible apply Below.drew | with_reducible apply bdN | with_reducible refine Below.alloc ?_ (by first | exact Nat.le_refl _ | with_reducible exact HB.out.size | omega | (simp; done) | (simp; omega) | (have := HB.out.size; simp at *; omega)) _)) b)
                have HR := Lib.hid (Rd.below (by repeat (first | with_reducible exact HR.out | with_reducible apply Rd.drewN | with_reducible apply Rd.drew | with_reducible apply Rd.alloc)) b)
                have K2 : Hid (GBox _ (w.heap.size) (⟨33, s, nx, .slice p n c, .slice ps ns cs, .slice pw nw cw⟩)) := Lib.hid (GBox.below (by repeat (first | with_reducible exact K2.out | with_reducible apply GBox.drewN | with_reducible apply GBox.drew | (with_reducible refine GBox.newAt ?_ ?_ <;> first | (simp; done) | rfl) | with_reducible apply GBox.alloc)) b)
                have K3 : Hid (CBox _ (w.heap.size + 1) (⟨61, cl⟩)) := Lib.hid (CBox.below (by repeat (first | with_reducible exact K3.out | with_reducible apply CBox.drewN | with_reducible apply CBox.drew | (with_reducible refine CBox.newAt ?_ ?_ <;> first | (simp; done) | rfl) | with_reducible apply CBox.alloc)) b)
                try clear k2a k2b k2c k2d k2e k2z
                have k2z := K2.out.lt
                obtain ⟨k2a, k2b, k2c, k2d, k2e⟩ := K2.out.cell
                try clear k3a k3b k3c k3d k3z
                have k3z := K3.out.lt
                obtain ⟨k3a, k3b, k3c, k3d⟩ := K3.out.cell
                clear b
                go_wp2_with fail
                rw [rounds_succ]
                go_wp2_with fail
                have qk2a := fun d os => cell_regrown k2a d os
                have qk2b := fun d os => cell_regrown k2b d os
                have qk2c := fun d os => cell_regrown k2c d os
                have qk2d := fun d os => cell_regrown k2d d os
                have qk2e := fun d os => cell_regrown k2e d os
                have qk3a := fun d os => cell_regrown k3a d os
                have qk3b := fun d os => cell_regrown k3b d os
                have qk3c := fun d os => cell_regrown k3c d os
                have qk3d := fun d os => cell_regrown k3d d os
                refine wp_region_quiet_below (by kernel_rfl) (by kernel_rfl) ?_
                repeat (first | go_big_quiet_step ((go_at_call 47; first | with_reducible exact Calls.regrown_of (HC0.out _) | with_reducible exact Calls.regrown_of (HC1.out _) | with_reducible exact Calls.regrown_of (HC2.out _))) | quiet_step ((go_at_call 47; first | with_reducible exact Calls.regrown_of (HC0.out _) | with_reducible exact Calls.regrown_of (HC1.out _) | with_reducible exact Calls.regrown_of (HC2.out _))))
                refine wpQuiet_nil ?_
                intro v2 hw2
                have b : Below v1.heap.size v1 v2 := by obtain ⟨r, hr⟩ := hw2; rw [hr]; exact below_regrown _ _ _
                clear hw2 qk2a qk2b qk2c qk3a qk3b qk3c
                have Sv2 := Lib.hid b.size
                have HB := Lib.hid (chain0 (w := w) (by repeat (first | with_reducible exact Below.refl _ _ | with_reducible exact HB.out | with_reducible apply Below.drew | with_reducible apply bdN | with_reducible refine Below.alloc ?_ (by first | exact Nat.le_refl _ | with_reducible exact HB.out.size | omega | (simp; done) | (simp; omega) | (have := HB.out.size; simp at *; omega)) _)) b)
                have HR := Lib.hid (Rd.below (by repeat (first | with_reducible exact HR.out | with_reducible apply Rd.drewN | with_reducible apply Rd.drew | with_reducible apply Rd.alloc)) b)
                have K2 : Hid (GBox _ (w.heap.size) (⟨33, s, nx, .slice p n c, .slice ps ns cs, .slice pw nw cw⟩)) := Lib.hid (GBox.below (by repeat (first | with_reducible exact K2.out | with_reducible apply GBox.drewN | with_reducible apply GBox.drew | (with_reducible refine GBox.newAt ?_ ?_ <;> first | (simp; done) | rfl) | with_reducible apply GBox.alloc)) b)
                have K3 : Hid (CBox _ (w.heap.size + 1) (⟨61, cl⟩)) := Lib.hid (CBox.below (by repeat (first | with_reducible exact K3.out | with_reducible apply CBox.drewN | with_reducible apply CBox.drew | (with_reducible refine CBox.newAt ?_ ?_ <;> first | (simp; done) | rfl) | with_reducible apply CBox.alloc)) b)
                try clear k2a k2b k2c k2d k2e k2z
                have k2z := K2.out.lt
                obtain ⟨k2a, k2b, k2c, k2d, k2e⟩ := K2.out.cell
                try clear k3a k3b k3c k3d k3z
                have k3z := K3.out.lt
                obtain ⟨k3a, k3b, k3c, k3d⟩ := K3.out.cell
                clear b
                go_wp2_with fail
                rw [rounds_succ]
                go_wp2_with fail
                go_ret
                exact ⟨rfl, by repeat (first | with_reducible exact Below.refl _ _ | with_reducible exact HB.out | with_reducible apply Below.drew | with_reducible apply bdN | with_reducible refine Below.alloc ?_ (by first | exact Nat.le_refl _ | with_reducible exact HB.out.size | omega | (simp; done) | (simp; omega) | (have := HB.out.size; simp at *; omega)) _)⟩
              · skip
                have HC0 := Lib.hid (show ∀ w, Calls Try.prog 47 #[.int .i64 cl.b, .int .i64 0, .int .i64 ((n : Int) - 1)] w fun e w' => e = .returned (.bool true) ∧ Below w.heap.size w w' from fun w => by have h := l1_in cl.b 0 ((n : Int) - 1) w; rwa [decide_eq_true hi0] at h)
                have HC1 := Lib.hid (show ∀ w, Calls Try.prog 47 #[.int .i64 cl.c, .int .i64 0, .int .i64 ((n : Int) - 1)] w fun e w' => e = .returned (.bool true) ∧ Below w.heap.size w w' from fun w => by have h := l1_in cl.c 0 ((n : Int) - 1) w; rwa [decide_eq_true hi1] at h)
                have HC2 := Lib.hid (show ∀ w, Calls Try.prog 47 #[.int .i64 cl.d, .int .i64 0, .int .i64 ((n : Int) - 1)] w fun e w' => e = .returned (.bool true) ∧ Below w.heap.size w w' from fun w => by have h := l1_in cl.d 0 ((n : Int) - 1) w; rwa [decide_eq_true hi2] at h)
                have HT := Lib.hid (kind_i (l := l) HRn.out (by rw [H2.out]; unfold onT plc; rw [HN.out]; simp only [Bool.true_and]; exact decide_eq_false (by omega)))
                rw [HT.out]
                go_enter Try.func54, Try.ntmps54
                go_upto_region 1 with fail
                obtain ⟨w0, ew, b⟩ : ∃ wOPN : World, wOPN = ((w.alloc (Gv.obj ⟨33, s, nx, .slice p n c, .slice ps ns cs, .slice pw nw cw⟩)).alloc (Cv.obj ⟨61, cl⟩)) ∧ Below (((w.alloc (Gv.obj ⟨33, s, nx, .slice p n c, .slice ps ns cs, .slice pw nw cw⟩)).alloc (Cv.obj ⟨61, cl⟩))).heap.size (((w.alloc (Gv.obj ⟨33, s, nx, .slice p n c, .slice ps ns cs, .slice pw nw cw⟩)).alloc (Cv.obj ⟨61, cl⟩))) wOPN := ⟨_, rfl, Below.refl _ _⟩
                rw [← ew]
                clear ew
                have Sw0 := Lib.hid b.size
                have HB := Lib.hid (chain0 (w := w) (by repeat (first | with_reducible exact Below.refl _ _ | with_reducible exact HB.out | with_reducible apply Below.drew | with_reducible apply bdN | with_reducible refine Below.alloc ?_ (by first | exact Nat.le_refl _ | with_reducible exact HB.out.size | omega | (simp; done) | (simp; omega) | (have := HB.out.size; simp at *; omega)) _)) b)
                have HR := Lib.hid (Rd.below (by repeat (first | with_reducible exact HR.out | with_reducible apply Rd.drewN | with_reducible apply Rd.drew | with_reducible apply Rd.alloc)) b)
                have K2 : Hid (GBox _ (w.heap.size) (⟨33, s, nx, .slice p n c, .slice ps ns cs, .slice pw nw cw⟩)) := Lib.hid (GBox.below (by repeat (first | with_reducible exact K2.out | with_reducible apply GBox.drewN | with_reducible apply GBox.drew | (with_reducible refine GBox.newAt ?_ ?_ <;> first | (simp; done) | rfl) | with_reducible apply GBox.alloc)) b)
                have K3 : Hid (CBox _ (w.heap.size + 1) (⟨61, cl⟩)) := Lib.hid (CBox.below (by repeat (first | with_reducible exact K3.out | with_reducible apply CBox.drewN | with_reducible apply CBox.drew | (with_reducible refine CBox.newAt ?_ ?_ <;> first | (simp; done) | rfl) | with_reducible apply CBox.alloc)) b)
                try clear k2a k2b k2c k2d k2e k2z
                have k2z := K2.out.lt
                obtain ⟨k2a, k2b, k2c, k2d, k2e⟩ := K2.out.cell
                try clear k3a k3b k3c k3d k3z
                have k3z := K3.out.lt
                obtain ⟨k3a, k3b, k3c, k3d⟩ := K3.out.cell
                clear b
                go_wp2_with fail
                refine ((HPl.out _)).mono ?_
                rintro e w1 ⟨rfl, b⟩
                have Sw1 := Lib.hid b.size
                have HB := Lib.hid (chain0 (w := w) (by repeat (first | with_reducible exact Below.refl _ _ | with_reducible exact HB.out | with_reducible apply Below.drew | with_reducible apply bdN | with_reducible refine Below.alloc ?_ (by first | exact Nat.le_refl _ | with_reducible exact HB.out.size | omega | (simp; done) | (simp; omega) | (have := HB.out.size; simp at *; omega)) _)) b)
                have HR := Lib.hid (Rd.below (by repeat (first | with_reducible exact HR.out | with_reducible apply Rd.drewN | with_reducible apply Rd.drew | with_reducible apply Rd.alloc)) b)
                have K2 : Hid (GBox _ (w.heap.size) (⟨33, s, nx, .slice p n c, .slice ps ns cs, .slice pw nw cw⟩)) := Lib.hid (GBox.below (by repeat (first | with_reducible exact K2.out | with_reducible apply GBox.drewN | with_reducible apply GBox.drew | (with_reducible refine GBox.newAt ?_ ?_ <;> first | (simp; done) | rfl) | with_reducible apply GBox.alloc)) b)
                have K3 : Hid (CBox _ (w.heap.size + 1) (⟨61, cl⟩)) := Lib.hid (CBox.below (by repeat (first | with_reducible exact K3.out | with_reducible apply CBox.drewN | with_reducible apply CBox.drew | (with_reducible refine CBox.newAt ?_ ?_ <;> first | (simp; done) | rfl) | with_reducible apply CBox.alloc)) b)
                try clear k2a k2b k2c k2d k2e k2z
                have k2z := K2.out.lt
                obtain ⟨k2a, k2b, k2c, k2d, k2e⟩ := K2.out.cell
                try clear k3a k3b k3c k3d k3z
                have k3z := K3.out.lt
                obtain ⟨k3a, k3b, k3c, k3d⟩ := K3.out.cell
                clear b
                go_wp2_with fail
                refine ((HLi.out _ HR.out)).mono ?_
                rintro e w2 ⟨rfl, b⟩
                have Sw2 := Lib.hid b.size
                have HB := Lib.hid (chain0 (w := w) (by repeat (first | with_reducible exact Below.refl _ _ | with_reducible exact HB.out | with_reducible apply Below.drew | with_reducible apply bdN | with_reducible refine Below.alloc ?_ (by first | exact Nat.le_refl _ | with_reducible exact HB.out.size | omega | (simp; done) | (simp; omega) | (have := HB.out.size; simp at *; omega)) _)) b)
                have HR := Lib.hid (Rd.below (by repeat (first | with_reducible exact HR.out | with_reducible apply Rd.drewN | with_reducible apply Rd.drew | with_reducible apply Rd.alloc)) b)
                have K2 : Hid (GBox _ (w.heap.size) (⟨33, s, nx, .slice p n c, .slice ps ns cs, .slice pw nw cw⟩)) := Lib.hid (GBox.below (by repeat (first | with_reducible exact K2.out | with_reducible apply GBox.drewN | with_reducible apply GBox.drew | (with_reducible refine GBox.newAt ?_ ?_ <;> first | (simp; done) | rfl) | with_reducible apply GBox.alloc)) b)
                have K3 : Hid (CBox _ (w.heap.size + 1) (⟨61, cl⟩)) := Lib.hid (CBox.below (by repeat (first | with_reducible exact K3.out | with_reducible apply CBox.drewN | with_reducible apply CBox.drew | (with_reducible refine CBox.newAt ?_ ?_ <;> first | (simp; done) | rfl) | with_reducible apply CBox.alloc)) b)
                try clear k2a k2b k2c k2d k2e k2z
                have k2z := K2.out.lt
                obtain ⟨k2a, k2b, k2c, k2d, k2e⟩ := K2.out.cell
                try clear k3a k3b k3c k3d k3z
                have k3z := K3.out.lt
                obtain ⟨k3a, k3b, k3c, k3d⟩ := K3.out.cell
                clear b
                go_wp2_with fail
                refine wp_loop_rounds 4 ?_
                rw [rounds_succ]
                go_wp2_with fail
                have qk2a := fun d os => cell_regrown k2a d os
                have qk2b := fun d os => cell_regrown k2b d os
                have qk2c := fun d os => cell_regrown k2c d os
                have qk2d := fun d os => cell_regrown k2d d os
                have qk2e := fun d os => cell_regrown k2e d os
                have qk3a := fun d os => cell_regrown k3a d os
                have qk3b := fun d os => cell_regrown k3b d os
                have qk3c := fun d os => cell_regrown k3c d os
                have qk3d := fun d os => cell_regrown k3d d os
                refine wp_region_quiet_below (by kernel_rfl) (by kernel_rfl) ?_
                repeat (first | go_big_quiet_step ((go_at_call 47; first | with_reducible exact Calls.regrown_of (HC0.out _))) | quiet_step ((go_at_call 47; first | with_reducible exact Calls.regrown_of (HC0.out _))))
                refine wpQuiet_nil ?_
                intro v0 hw2
                have b : Below w2.heap.size w2 v0 := by obtain ⟨r, hr⟩ := hw2; rw [hr]; exact below_regrown _ _ _
                clear hw2 qk2a qk2b qk2c qk3a qk3b qk3c
                have Sv0 := Lib.hid b.size
                have HB := Lib.hid (chain0 (w := w) (by repeat (first | with_reducible exact Below.refl _ _ | with_reducible exact HB.out | with_reducible apply Below.drew | with_reducible apply bdN | with_reducible refine Below.alloc ?_ (by first | exact Nat.le_refl _ | with_reducible exact HB.out.size | omega | (simp; done) | (simp; omega) | (have := HB.out.size; simp at *; omega)) _)) b)
                have HR := Lib.hid (Rd.below (by repeat (first | with_reducible exact HR.out | with_reducible apply Rd.drewN | with_reducible apply Rd.drew | with_reducible apply Rd.alloc)) b)
                have K2 : Hid (GBox _ (w.heap.size) (⟨33, s, nx, .slice p n c, .slice ps ns cs, .slice pw nw cw⟩)) := Lib.hid (GBox.below (by repeat (first | with_reducible exact K2.out | with_reducible apply GBox.drewN | with_reducible apply GBox.drew | (with_reducible refine GBox.newAt ?_ ?_ <;> first | (simp; done) | rfl) | with_reducible apply GBox.alloc)) b)
                have K3 : Hid (CBox _ (w.heap.size + 1) (⟨61, cl⟩)) := Lib.hid (CBox.below (by repeat (first | with_reducible exact K3.out | with_reducible apply CBox.drewN | with_reducible apply CBox.drew | (with_reducible refine CBox.newAt ?_ ?_ <;> first | (simp; done) | rfl) | with_reducible apply CBox.alloc)) b)
                try clear k2a k2b k2c k2d k2e k2z
                have k2z := K2.out.lt
                obtain ⟨k2a, k2b, k2c, k2d, k2e⟩ := K2.out.cell
                try clear k3a k3b k3c k3d k3z
                have k3z := K3.out.lt
                obtain ⟨k3a, k3b, k3c, k3d⟩ := K3.out.cell
                clear b
                go_wp2_with fail
                rw [rounds_succ]
                go_wp2_with fail
                have qk2a := fun d os => cell_regrown k2a d os
                have qk2b := fun d os => cell_regrown k2b d os
                have qk2c := fun d os => cell_regrown k2c d os
                have qk2d := fun d os => cell_regrown k2d d os
                have qk2e := fun d os => cell_regrown k2e d os
                have qk3a := fun d os => cell_regrown k3a d os
                have qk3b := fun d os => cell_regrown k3b d os
                have qk3c := fun d os => cell_regrown k3c d os
                have qk3d := fun d os => cell_regrown k3d d os
                refine wp_region_quiet_below (by kernel_rfl) (by kernel_rfl) ?_
                repeat (first | go_big_quiet_step ((go_at_call 47; first | with_reducible exact Calls.regrown_of (HC0.out _) | with_reducible exact Calls.regrown_of (HC1.out _))) | quiet_step ((go_at_call 47; first | with_reducible exact Calls.regrown_of (HC0.out _) | with_reducible exact Calls.regrown_of (HC1.out _))))
                refine wpQuiet_nil ?_
                intro v1 hw2
                have b : Below v0.heap.size v0 v1 := by obtain ⟨r, hr⟩ := hw2; rw [hr]; exact below_regrown _ _ _
                clear hw2 qk2a qk2b qk2c qk3a qk3b qk3c
                have Sv1 := Lib.hid b.size
                have HB := Lib.hid (chain0 (w := w) (by repeat (first | with_reducible exact Below.refl _ _ | with_reducible exact HB.out | with_reducible apply Below.drew | with_reducible apply bdN | with_reducible refine Below.alloc ?_ (by first | exact Nat.le_refl _ | with_reducible exact HB.out.size | omega | (simp; done) | (simp; omega) | (have := HB.out.size; simp at *; omega)) _)) b)
                have HR := Lib.hid (Rd.below (by repeat (first | with_reducible exact HR.out | with_reducible apply Rd.drewN | with_reducible apply Rd.drew | with_reducible apply Rd.alloc)) b)
                have K2 : Hid (GBox _ (w.heap.size) (⟨33, s, nx, .slice p n c, .slice ps ns cs, .slice pw nw cw⟩)) := Lib.hid (GBox.below (by repeat (first | with_reducible exact K2.out | with_reducible apply GBox.drewN | with_reducible apply GBox.drew | (with_reducible refine GBox.newAt ?_ ?_ <;> first | (simp; done) | rfl) | with_reducible apply GBox.alloc)) b)
                have K3 : Hid (CBox _ (w.heap.size + 1) (⟨61, cl⟩)) := Lib.hid (CBox.below (by repeat (first | with_reducible exact K3.out | with_reducible apply CBox.drewN | with_reducible apply CBox.drew | (with_reducible refine CBox.newAt ?_ ?_ <;> first | (simp; done) | rfl) | with_reducible apply CBox.alloc)) b)
                try clear k2a k2b k2c k2d k2e k2z
                have k2z := K2.out.lt
                obtain ⟨k2a, k2b, k2c, k2d, k2e⟩ := K2.out.cell
                try clear k3a k3b k3c k3d k3z
                have k3z := K3.out.lt
                obtain ⟨k3a, k3b, k3c, k3d⟩ := K3.out.cell
                clear b
                go_wp2_with fail
                rw [rounds_succ]
                go_wp2_with fail
                have qk2a := fun d os => cell_regrown k2a d os
                have qk2b := fun d os => cell_regrown k2b d os
                have qk2c := fun d os => cell_regrown k2c d os
                have qk2d := fun d os => cell_regrown k2d d os
                have qk2e := fun d os => cell_regrown k2e d os
                have qk3a := fun d os => cell_regrown k3a d os
                have qk3b := fun d os => cell_regrown k3b d os
                have qk3c := fun d os => cell_regrown k3c d os
                have qk3d := fun d os => cell_regrown k3d d os
                refine wp_region_quiet_below (by kernel_rfl) (by kernel_rfl) ?_
                repeat (first | go_big_quiet_step ((go_at_call 47; first | with_reducible exact Calls.regrown_of (HC0.out _) | with_reducible exact Calls.regrown_of (HC1.out _) | with_reducible exact Calls.regrown_of (HC2.out _))) | quiet_step ((go_at_call 47; first | with_reducible exact Calls.regrown_of (HC0.out _) | with_reducible exact Calls.regrown_of (HC1.out _) | with_reducible exact Calls.regrown_of (HC2.out _))))
                refine wpQuiet_nil ?_
                intro v2 hw2
                have b : Below v1.heap.size v1 v2 := by obtain ⟨r, hr⟩ := hw2; rw [hr]; exact below_regrown _ _ _
                clear hw2 qk2a qk2b qk2c qk3a qk3b qk3c
                have Sv2 := Lib.hid b.size
                have HB := Lib.hid (chain0 (w := w) (by repeat (first | with_reducible exact Below.refl _ _ | with_reducible exact HB.out | with_reducible apply Below.drew | with_reducible apply bdN | with_reducible refine Below.alloc ?_ (by first | exact Nat.le_refl _ | with_reducible exact HB.out.size | omega | (simp; done) | (simp; omega) | (have := HB.out.size; simp at *; omega)) _)) b)
                have HR := Lib.hid (Rd.below (by repeat (first | with_reducible exact HR.out | with_reducible apply Rd.drewN | with_reducible apply Rd.drew | with_reducible apply Rd.alloc)) b)
                have K2 : Hid (GBox _ (w.heap.size) (⟨33, s, nx, .slice p n c, .slice ps ns cs, .slice pw nw cw⟩)) := Lib.hid (GBox.below (by repeat (first | with_reducible exact K2.out | with_reducible apply GBox.drewN | with_reducible apply GBox.drew | (with_reducible refine GBox.newAt ?_ ?_ <;> first | (simp; done) | rfl) | with_reducible apply GBox.alloc)) b)
                have K3 : Hid (CBox _ (w.heap.size + 1) (⟨61, cl⟩)) := Lib.hid (CBox.below (by repeat (first | with_reducible exact K3.out | with_reducible apply CBox.drewN | with_reducible apply CBox.drew | (with_reducible refine CBox.newAt ?_ ?_ <;> first | (simp; done) | rfl) | with_reducible apply CBox.alloc)) b)
                try clear k2a k2b k2c k2d k2e k2z
                have k2z := K2.out.lt
                obtain ⟨k2a, k2b, k2c, k2d, k2e⟩ := K2.out.cell
                try clear k3a k3b k3c k3d k3z
                have k3z := K3.out.lt
                obtain ⟨k3a, k3b, k3c, k3d⟩ := K3.out.cell
                clear b
                go_wp2_with fail
                go_ret
                exact ⟨rfl, by repeat (first | with_reducible exact Below.refl _ _ | with_reducible exact HB.out | with_reducible apply Below.drew | with_reducible apply bdN | with_reducible refine Below.alloc ?_ (by first | exact Nat.le_refl _ | with_reducible exact HB.out.size | omega | (simp; done) | (simp; omega) | (have := HB.out.size; simp at *; omega)) _)⟩
            · skip
              have HC0 := Lib.hid (show ∀ w, Calls Try.prog 47 #[.int .i64 cl.b, .int .i64 0, .int .i64 ((n : Int) - 1)] w fun e w' => e = .returned (.bool true) ∧ Below w.heap.size w w' from fun w => by have h := l1_in cl.b 0 ((n : Int) - 1) w; rwa [decide_eq_true hi0] at h)
              have HC1 := Lib.hid (show ∀ w, Calls Try.prog 47 #[.int .i64 cl.c, .int .i64 0, .int .i64 ((n : Int) - 1)] w fun e w' => e = .returned (.bool true) ∧ Below w.heap.size w w' from fun w => by have h := l1_in cl.c 0 ((n : Int) - 1) w; rwa [decide_eq_true hi1] at h)
              have HC2 := Lib.hid (show ∀ w, Calls Try.prog 47 #[.int .i64 cl.d, .int .i64 0, .int .i64 ((n : Int) - 1)] w fun e w' => e = .returned (.bool false) ∧ Below w.heap.size w w' from fun w => by have h := l1_in cl.d 0 ((n : Int) - 1) w; rwa [decide_eq_false hi2] at h)
              have HT := Lib.hid (kind_i (l := l) HRn.out (by rw [H2.out]; unfold onT plc; rw [HN.out]; simp only [Bool.true_and]; exact decide_eq_false (by omega)))
              rw [HT.out]
              go_enter Try.func54, Try.ntmps54
              go_upto_region 1 with fail
              obtain ⟨w0, ew, b⟩ : ∃ wOPN : World, wOPN = ((w.alloc (Gv.obj ⟨33, s, nx, .slice p n c, .slice ps ns cs, .slice pw nw cw⟩)).alloc (Cv.obj ⟨61, cl⟩)) ∧ Below (((w.alloc (Gv.obj ⟨33, s, nx, .slice p n c, .slice ps ns cs, .slice pw nw cw⟩)).alloc (Cv.obj ⟨61, cl⟩))).heap.size (((w.alloc (Gv.obj ⟨33, s, nx, .slice p n c, .slice ps ns cs, .slice pw nw cw⟩)).alloc (Cv.obj ⟨61, cl⟩))) wOPN := ⟨_, rfl, Below.refl _ _⟩
              rw [← ew]
              clear ew
              have Sw0 := Lib.hid b.size
              have HB := Lib.hid (chain0 (w := w) (by repeat (first | with_reducible exact Below.refl _ _ | with_reducible exact HB.out | with_reducible apply Below.drew | with_reducible apply bdN | with_reducible refine Below.alloc ?_ (by first | exact Nat.le_refl _ | with_reducible exact HB.out.size | omega | (simp; done) | (simp; omega) | (have := HB.out.size; simp at *; omega)) _)) b)
              have HR := Lib.hid (Rd.below (by repeat (first | with_reducible exact HR.out | with_reducible apply Rd.drewN | with_reducible apply Rd.drew | with_reducible apply Rd.alloc)) b)
              have K2 : Hid (GBox _ (w.heap.size) (⟨33, s, nx, .slice p n c, .slice ps ns cs, .slice pw nw cw⟩)) := Lib.hid (GBox.below (by repeat (first | with_reducible exact K2.out | with_reducible apply GBox.drewN | with_reducible apply GBox.drew | (with_reducible refine GBox.newAt ?_ ?_ <;> first | (simp; done) | rfl) | with_reducible apply GBox.alloc)) b)
              have K3 : Hid (CBox _ (w.heap.size + 1) (⟨61, cl⟩)) := Lib.hid (CBox.below (by repeat (first | with_reducible exact K3.out | with_reducible apply CBox.drewN | with_reducible apply CBox.drew | (with_reducible refine CBox.newAt ?_ ?_ <;> first | (simp; done) | rfl) | with_reducible apply CBox.alloc)) b)
              try clear k2a k2b k2c k2d k2e k2z
              have k2z := K2.out.lt
              obtain ⟨k2a, k2b, k2c, k2d, k2e⟩ := K2.out.cell
              try clear k3a k3b k3c k3d k3z
              have k3z := K3.out.lt
              obtain ⟨k3a, k3b, k3c, k3d⟩ := K3.out.cell
              clear b
              go_wp2_with fail
              refine ((HPl.out _)).mono ?_
              rintro e w1 ⟨rfl, b⟩
              have Sw1 := Lib.hid b.size
              have HB := Lib.hid (chain0 (w := w) (by repeat (first | with_reducible exact Below.refl _ _ | with_reducible exact HB.out | with_reducible apply Below.drew | with_reducible apply bdN | with_reducible refine Below.alloc ?_ (by first | exact Nat.le_refl _ | with_reducible exact HB.out.size | omega | (simp; done) | (simp; omega) | (have := HB.out.size; simp at *; omega)) _)) b)
              have HR := Lib.hid (Rd.below (by repeat (first | with_reducible exact HR.out | with_reducible apply Rd.drewN | with_reducible apply Rd.drew | with_reducible apply Rd.alloc)) b)
              have K2 : Hid (GBox _ (w.heap.size) (⟨33, s, nx, .slice p n c, .slice ps ns cs, .slice pw nw cw⟩)) := Lib.hid (GBox.below (by repeat (first | with_reducible exact K2.out | with_reducible apply GBox.drewN | with_reducible apply GBox.drew | (with_reducible refine GBox.newAt ?_ ?_ <;> first | (simp; done) | rfl) | with_reducible apply GBox.alloc)) b)
              have K3 : Hid (CBox _ (w.heap.size + 1) (⟨61, cl⟩)) := Lib.hid (CBox.below (by repeat (first | with_reducible exact K3.out | with_reducible apply CBox.drewN | with_reducible apply CBox.drew | (with_reducible refine CBox.newAt ?_ ?_ <;> first | (simp; done) | rfl) | with_reducible apply CBox.alloc)) b)
              try clear k2a k2b k2c k2d k2e k2z
              have k2z := K2.out.lt
              obtain ⟨k2a, k2b, k2c, k2d, k2e⟩ := K2.out.cell
              try clear k3a k3b k3c k3d k3z
              have k3z := K3.out.lt
              obtain ⟨k3a, k3b, k3c, k3d⟩ := K3.out.cell
              clear b
              go_wp2_with fail
              refine ((HLi.out _ HR.out)).mono ?_
              rintro e w2 ⟨rfl, b⟩
              have Sw2 := Lib.hid b.size
              have HB := Lib.hid (chain0 (w := w) (by repeat (first | with_reducible exact Below.refl _ _ | with_reducible exact HB.out | with_reducible apply Below.drew | with_reducible apply bdN | with_reducible refine Below.alloc ?_ (by first | exact Nat.le_refl _ | with_reducible exact HB.out.size | omega | (simp; done) | (simp; omega) | (have := HB.out.size; simp at *; omega)) _)) b)
              have HR := Lib.hid (Rd.below (by repeat (first | with_reducible exact HR.out | with_reducible apply Rd.drewN | with_reducible apply Rd.drew | with_reducible apply Rd.alloc)) b)
              have K2 : Hid (GBox _ (w.heap.size) (⟨33, s, nx, .slice p n c, .slice ps ns cs, .slice pw nw cw⟩)) := Lib.hid (GBox.below (by repeat (first | with_reducible exact K2.out | with_reducible apply GBox.drewN | with_reducible apply GBox.drew | (with_reducible refine GBox.newAt ?_ ?_ <;> first | (simp; done) | rfl) | with_reducible apply GBox.alloc)) b)
              have K3 : Hid (CBox _ (w.heap.size + 1) (⟨61, cl⟩)) := Lib.hid (CBox.below (by repeat (first | with_reducible exact K3.out | with_reducible apply CBox.drewN | with_reducible apply CBox.drew | (with_reducible refine CBox.newAt ?_ ?_ <;> first | (simp; done) | rfl) | with_reducible apply CBox.alloc)) b)
              try clear k2a k2b k2c k2d k2e k2z
              have k2z := K2.out.lt
              obtain ⟨k2a, k2b, k2c, k2d, k2e⟩ := K2.out.cell
              try clear k3a k3b k3c k3d k3z
              have k3z := K3.out.lt
              obtain ⟨k3a, k3b, k3c, k3d⟩ := K3.out.cell
              clear b
              go_wp2_with fail
              refine wp_loop_rounds 4 ?_
              rw [rounds_succ]
              go_wp2_with fail
              have qk2a := fun d os => cell_regrown k2a d os
              have qk2b := fun d os => cell_regrown k2b d os
              have qk2c := fun d os => cell_regrown k2c d os
              have qk2d := fun d os => cell_regrown k2d d os
              have qk2e := fun d os => cell_regrown k2e d os
              have qk3a := fun d os => cell_regrown k3a d os
              have qk3b := fun d os => cell_regrown k3b d os
              have qk3c := fun d os => cell_regrown k3c d os
              have qk3d := fun d os => cell_regrown k3d d os
              refine wp_region_quiet_below (by kernel_rfl) (by kernel_rfl) ?_
              repeat (first | go_big_quiet_step ((go_at_call 47; first | with_reducible exact Calls.regrown_of (HC0.out _))) | quiet_step ((go_at_call 47; first | with_reducible exact Calls.regrown_of (HC0.out _))))
              refine wpQuiet_nil ?_
              intro v0 hw2
              have b : Below w2.heap.size w2 v0 := by obtain ⟨r, hr⟩ := hw2; rw [hr]; exact below_regrown _ _ _
              clear hw2 qk2a qk2b qk2c qk3a qk3b qk3c
              have Sv0 := Lib.hid b.size
              have HB := Lib.hid (chain0 (w := w) (by repeat (first | with_reducible exact Below.refl _ _ | with_reducible exact HB.out | with_reducible apply Below.drew | with_reducible apply bdN | with_reducible refine Below.alloc ?_ (by first | exact Nat.le_refl _ | with_reducible exact HB.out.size | omega | (simp; done) | (simp; omega) | (have := HB.out.size; simp at *; omega)) _)) b)
              have HR := Lib.hid (Rd.below (by repeat (first | with_reducible exact HR.out | with_reducible apply Rd.drewN | with_reducible apply Rd.drew | with_reducible apply Rd.alloc)) b)
              have K2 : Hid (GBox _ (w.heap.size) (⟨33, s, nx, .slice p n c, .slice ps ns cs, .slice pw nw cw⟩)) := Lib.hid (GBox.below (by repeat (first | with_reducible exact K2.out | with_reducible apply GBox.drewN | with_reducible apply GBox.drew | (with_reducible refine GBox.newAt ?_ ?_ <;> first | (simp; done) | rfl) | with_reducible apply GBox.alloc)) b)
              have K3 : Hid (CBox _ (w.heap.size + 1) (⟨61, cl⟩)) := Lib.hid (CBox.below (by repeat (first | with_reducible exact K3.out | with_reducible apply CBox.drewN | with_reducible apply CBox.drew | (with_reducible refine CBox.newAt ?_ ?_ <;> first | (simp; done) | rfl) | with_reducible apply CBox.alloc)) b)
              try clear k2a k2b k2c k2d k2e k2z
              have k2z := K2.out.lt
              obtain ⟨k2a, k2b, k2c, k2d, k2e⟩ := K2.out.cell
              try clear k3a k3b k3c k3d k3z
              have k3z := K3.out.lt
              obtain ⟨k3a, k3b, k3c, k3d⟩ := K3.out.cell
              clear b
              go_wp2_with fail
              rw [rounds_succ]
              go_wp2_with fail
              have qk2a := fun d os => cell_regrown k2a d os
              have qk2b := fun d os => cell_regrown k2b d os
              have qk2c := fun d os => cell_regrown k2c d os
              have qk2d := fun d os => cell_regrown k2d d os
              have qk2e := fun d os => cell_regrown k2e d os
              have qk3a := fun d os => cell_regrown k3a d os
              have qk3b := fun d os => cell_regrown k3b d os
              have qk3c := fun d os => cell_regrown k3c d os
              have qk3d := fun d os => cell_regrown k3d d os
              refine wp_region_quiet_below (by kernel_rfl) (by kernel_rfl) ?_
              repeat (first | go_big_quiet_step ((go_at_call 47; first | with_reducible exact Calls.regrown_of (HC0.out _) | with_reducible exact Calls.regrown_of (HC1.out _))) | quiet_step ((go_at_call 47; first | with_reducible exact Calls.regrown_of (HC0.out _) | with_reducible exact Calls.regrown_of (HC1.out _))))
              refine wpQuiet_nil ?_
              intro v1 hw2
              have b : Below v0.heap.size v0 v1 := by obtain ⟨r, hr⟩ := hw2; rw [hr]; exact below_regrown _ _ _
              clear hw2 qk2a qk2b qk2c qk3a qk3b qk3c
              have Sv1 := Lib.hid b.size
              have HB := Lib.hid (chain0 (w := w) (by repeat (first | with_reducible exact Below.refl _ _ | with_reducible exact HB.out | with_reducible apply Below.drew | with_reducible apply bdN | with_reducible refine Below.alloc ?_ (by first | exact Nat.le_refl _ | with_reducible exact HB.out.size | omega | (simp; done) | (simp; omega) | (have := HB.out.size; simp at *; omega)) _)) b)
              have HR := Lib.hid (Rd.below (by repeat (first | with_reducible exact HR.out | with_reducible apply Rd.drewN | with_reducible apply Rd.drew | with_reducible apply Rd.alloc)) b)
              have K2 : Hid (GBox _ (w.heap.size) (⟨33, s, nx, .slice p n c, .slice ps ns cs, .slice pw nw cw⟩)) := Lib.hid (GBox.below (by repeat (first | with_reducible exact K2.out | with_reducible apply GBox.drewN | with_reducible apply GBox.drew | (with_reducible refine GBox.newAt ?_ ?_ <;> first | (simp; done) | rfl) | with_reducible apply GBox.alloc)) b)
              have K3 : Hid (CBox _ (w.heap.size + 1) (⟨61, cl⟩)) := Lib.hid (CBox.below (by repeat (first | with_reducible exact K3.out | with_reducible apply CBox.drewN | with_reducible apply CBox.drew | (with_reducible refine CBox.newAt ?_ ?_ <;> first | (simp; done) | rfl) | with_reducible apply CBox.alloc)) b)
              try clear k2a k2b k2c k2d k2e k2z
              have k2z := K2.out.lt
              obtain ⟨k2a, k2b, k2c, k2d, k2e⟩ := K2.out.cell
              try clear k3a k3b k3c k3d k3z
              have k3z := K3.out.lt
              obtain ⟨k3a, k3b, k3c, k3d⟩ := K3.out.cell
              clear b
              go_wp2_with fail
              rw [rounds_succ]
              go_wp2_with fail
              have qk2a := fun d os => cell_regrown k2a d os
              have qk2b := fun d os => cell_regrown k2b d os
              have qk2c := fun d os => cell_regrown k2c d os
              have qk2d := fun d os => cell_regrown k2d d os
              have qk2e := fun d os => cell_regrown k2e d os
              have qk3a := fun d os => cell_regrown k3a d os
              have qk3b := fun d os => cell_regrown k3b d os
              have qk3c := fun d os => cell_regrown k3c d os
              have qk3d := fun d os => cell_regrown k3d d os
              refine wp_region_quiet_below (by kernel_rfl) (by kernel_rfl) ?_
              repeat (first | go_big_quiet_step ((go_at_call 47; first | with_reducible exact Calls.regrown_of (HC0.out _) | with_reducible exact Calls.regrown_of (HC1.out _) | with_reducible exact Calls.regrown_of (HC2.out _))) | quiet_step ((go_at_call 47; first | with_reducible exact Calls.regrown_of (HC0.out _) | with_reducible exact Calls.regrown_of (HC1.out _) | with_reducible exact Calls.regrown_of (HC2.out _))))
              refine wpQuiet_nil ?_
              intro v2 hw2
              have b : Below v1.heap.size v1 v2 := by obtain ⟨r, hr⟩ := hw2; rw [hr]; exact below_regrown _ _ _
              clear hw2 qk2a qk2b qk2c qk3a qk3b qk3c
              have Sv2 := Lib.hid b.size
              have HB := Lib.hid (chain0 (w := w) (by repeat (first | with_reducible exact Below.refl _ _ | with_reducible exact HB.out | with_reducible apply Below.drew | with_reducible apply bdN | with_reducible refine Below.alloc ?_ (by first | exact Nat.le_refl _ | with_reducible exact HB.out.size | omega | (simp; done) | (simp; omega) | (have := HB.out.size; simp at *; omega)) _)) b)
              have HR := Lib.hid (Rd.below (by repeat (first | with_reducible exact HR.out | with_reducible apply Rd.drewN | with_reducible apply Rd.drew | with_reducible apply Rd.alloc)) b)
              have K2 : Hid (GBox _ (w.heap.size) (⟨33, s, nx, .slice p n c, .slice ps ns cs, .slice pw nw cw⟩)) := Lib.hid (GBox.below (by repeat (first | with_reducible exact K2.out | with_reducible apply GBox.drewN | with_reducible apply GBox.drew | (with_reducible refine GBox.newAt ?_ ?_ <;> first | (simp; done) | rfl) | with_reducible apply GBox.alloc)) b)
              have K3 : Hid (CBox _ (w.heap.size + 1) (⟨61, cl⟩)) := Lib.hid (CBox.below (by repeat (first | with_reducible exact K3.out | with_reducible apply CBox.drewN | with_reducible apply CBox.drew | (with_reducible refine CBox.newAt ?_ ?_ <;> first | (simp; done) | rfl) | with_reducible apply CBox.alloc)) b)
              try clear k2a k2b k2c k2d k2e k2z
              have k2z := K2.out.lt
              obtain ⟨k2a, k2b, k2c, k2d, k2e⟩ := K2.out.cell
              try clear k3a k3b k3c k3d k3z
              have k3z := K3.out.lt
              obtain ⟨k3a, k3b, k3c, k3d⟩ := K3.out.cell
              clear b
              go_wp2_with fail
              go_ret
              exact ⟨rfl, by repeat (first | with_reducible exact Below.refl _ _ | with_reducible exact HB.out | with_reducible apply Below.drew | with_reducible apply bdN | with_reducible refine Below.alloc ?_ (by first | exact Nat.le_refl _ | with_reducible exact HB.out.size | omega | (simp; done) | (simp; omega) | (have := HB.out.size; simp at *; omega)) _)⟩
          · skip
            have HC0 := Lib.hid (show ∀ w, Calls Try.prog 47 #[.int .i64 cl.b, .int .i64 0, .int .i64 ((n : Int) - 1)] w fun e w' => e = .returned (.bool true) ∧ Below w.heap.size w w' from fun w => by have h := l1_in cl.b 0 ((n : Int) - 1) w; rwa [decide_eq_true hi0] at h)
            have HC1 := Lib.hid (show ∀ w, Calls Try.prog 47 #[.int .i64 cl.c, .int .i64 0, .int .i64 ((n : Int) - 1)] w fun e w' => e = .returned (.bool true) ∧ Below w.heap.size w w' from fun w => by have h := l1_in cl.c 0 ((n : Int) - 1) w; rwa [decide_eq_true hi1] at h)
            have HT := Lib.hid (kind_i (l := l) HRn.out (by rw [H2.out]; unfold onT plc; rw [HN.out]; simp only [Bool.true_and]; exact decide_eq_false (by omega)))
            rw [HT.out]
            go_enter Try.func54, Try.ntmps54
            go_upto_region 1 with fail
            obtain ⟨w0, ew, b⟩ : ∃ wOPN : World, wOPN = ((w.alloc (Gv.obj ⟨33, s, nx, .slice p n c, .slice ps ns cs, .slice pw nw cw⟩)).alloc (Cv.obj ⟨61, cl⟩)) ∧ Below (((w.alloc (Gv.obj ⟨33, s, nx, .slice p n c, .slice ps ns cs, .slice pw nw cw⟩)).alloc (Cv.obj ⟨61, cl⟩))).heap.size (((w.alloc (Gv.obj ⟨33, s, nx, .slice p n c, .slice ps ns cs, .slice pw nw cw⟩)).alloc (Cv.obj ⟨61, cl⟩))) wOPN := ⟨_, rfl, Below.refl _ _⟩
            rw [← ew]
            clear ew
            have Sw0 := Lib.hid b.size
            have HB := Lib.hid (chain0 (w := w) (by repeat (first | with_reducible exact Below.refl _ _ | with_reducible exact HB.out | with_reducible apply Below.drew | with_reducible apply bdN | with_reducible refine Below.alloc ?_ (by first | exact Nat.le_refl _ | with_reducible exact HB.out.size | omega | (simp; done) | (simp; omega) | (have := HB.out.size; simp at *; omega)) _)) b)
            have HR := Lib.hid (Rd.below (by repeat (first | with_reducible exact HR.out | with_reducible apply Rd.drewN | with_reducible apply Rd.drew | with_reducible apply Rd.alloc)) b)
            have K2 : Hid (GBox _ (w.heap.size) (⟨33, s, nx, .slice p n c, .slice ps ns cs, .slice pw nw cw⟩)) := Lib.hid (GBox.below (by repeat (first | with_reducible exact K2.out | with_reducible apply GBox.drewN | with_reducible apply GBox.drew | (with_reducible refine GBox.newAt ?_ ?_ <;> first | (simp; done) | rfl) | with_reducible apply GBox.alloc)) b)
            have K3 : Hid (CBox _ (w.heap.size + 1) (⟨61, cl⟩)) := Lib.hid (CBox.below (by repeat (first | with_reducible exact K3.out | with_reducible apply CBox.drewN | with_reducible apply CBox.drew | (with_reducible refine CBox.newAt ?_ ?_ <;> first | (simp; done) | rfl) | with_reducible apply CBox.alloc)) b)
            try clear k2a k2b k2c k2d k2e k2z
            have k2z := K2.out.lt
            obtain ⟨k2a, k2b, k2c, k2d, k2e⟩ := K2.out.cell
            try clear k3a k3b k3c k3d k3z
            have k3z := K3.out.lt
            obtain ⟨k3a, k3b, k3c, k3d⟩ := K3.out.cell
            clear b
            go_wp2_with fail
            refine ((HPl.out _)).mono ?_
            rintro e w1 ⟨rfl, b⟩
            have Sw1 := Lib.hid b.size
            have HB := Lib.hid (chain0 (w := w) (by repeat (first | with_reducible exact Below.refl _ _ | with_reducible exact HB.out | with_reducible apply Below.drew | with_reducible apply bdN | with_reducible refine Below.alloc ?_ (by first | exact Nat.le_refl _ | with_reducible exact HB.out.size | omega | (simp; done) | (simp; omega) | (have := HB.out.size; simp at *; omega)) _)) b)
            have HR := Lib.hid (Rd.below (by repeat (first | with_reducible exact HR.out | with_reducible apply Rd.drewN | with_reducible apply Rd.drew | with_reducible apply Rd.alloc)) b)
            have K2 : Hid (GBox _ (w.heap.size) (⟨33, s, nx, .slice p n c, .slice ps ns cs, .slice pw nw cw⟩)) := Lib.hid (GBox.below (by repeat (first | with_reducible exact K2.out | with_reducible apply GBox.drewN | with_reducible apply GBox.drew | (with_reducible refine GBox.newAt ?_ ?_ <;> first | (simp; done) | rfl) | with_reducible apply GBox.alloc)) b)
            have K3 : Hid (CBox _ (w.heap.size + 1) (⟨61, cl⟩)) := Lib.hid (CBox.below (by repeat (first | with_reducible exact K3.out | with_reducible apply CBox.drewN | with_reducible apply CBox.drew | (with_reducible refine CBox.newAt ?_ ?_ <;> first | (simp; done) | rfl) | with_reducible apply CBox.alloc)) b)
            try clear k2a k2b k2c k2d k2e k2z
            have k2z := K2.out.lt
            obtain ⟨k2a, k2b, k2c, k2d, k2e⟩ := K2.out.cell
            try clear k3a k3b k3c k3d k3z
            have k3z := K3.out.lt
            obtain ⟨k3a, k3b, k3c, k3d⟩ := K3.out.cell
            clear b
            go_wp2_with fail
            refine ((HLi.out _ HR.out)).mono ?_
            rintro e w2 ⟨rfl, b⟩
            have Sw2 := Lib.hid b.size
            have HB := Lib.hid (chain0 (w := w) (by repeat (first | with_reducible exact Below.refl _ _ | with_reducible exact HB.out | with_reducible apply Below.drew | with_reducible apply bdN | with_reducible refine Below.alloc ?_ (by first | exact Nat.le_refl _ | with_reducible exact HB.out.size | omega | (simp; done) | (simp; omega) | (have := HB.out.size; simp at *; omega)) _)) b)
            have HR := Lib.hid (Rd.below (by repeat (first | with_reducible exact HR.out | with_reducible apply Rd.drewN | with_reducible apply Rd.drew | with_reducible apply Rd.alloc)) b)
            have K2 : Hid (GBox _ (w.heap.size) (⟨33, s, nx, .slice p n c, .slice ps ns cs, .slice pw nw cw⟩)) := Lib.hid (GBox.below (by repeat (first | with_reducible exact K2.out | with_reducible apply GBox.drewN | with_reducible apply GBox.drew | (with_reducible refine GBox.newAt ?_ ?_ <;> first | (simp; done) | rfl) | with_reducible apply GBox.alloc)) b)
            have K3 : Hid (CBox _ (w.heap.size + 1) (⟨61, cl⟩)) := Lib.hid (CBox.below (by repeat (first | with_reducible exact K3.out | with_reducible apply CBox.drewN | with_reducible apply CBox.drew | (with_reducible refine CBox.newAt ?_ ?_ <;> first | (simp; done) | rfl) | with_reducible apply CBox.alloc)) b)
            try clear k2a k2b k2c k2d k2e k2z
            have k2z := K2.out.lt
            obtain ⟨k2a, k2b, k2c, k2d, k2e⟩ := K2.out.cell
            try clear k3a k3b k3c k3d k3z
            have k3z := K3.out.lt
            obtain ⟨k3a, k3b, k3c, k3d⟩ := K3.out.cell
            clear b
            go_wp2_with fail
            refine wp_loop_rounds 4 ?_
            rw [rounds_succ]
            go_wp2_with fail
            have qk2a := fun d os => cell_regrown k2a d os
            have qk2b := fun d os => cell_regrown k2b d os
            have qk2c := fun d os => cell_regrown k2c d os
            have qk2d := fun d os => cell_regrown k2d d os
            have qk2e := fun d os => cell_regrown k2e d os
            have qk3a := fun d os => cell_regrown k3a d os
            have qk3b := fun d os => cell_regrown k3b d os
            have qk3c := fun d os => cell_regrown k3c d os
            have qk3d := fun d os => cell_regrown k3d d os
            refine wp_region_quiet_below (by kernel_rfl) (by kernel_rfl) ?_
            repeat (first | go_big_quiet_step ((go_at_call 47; first | with_reducible exact Calls.regrown_of (HC0.out _))) | quiet_step ((go_at_call 47; first | with_reducible exact Calls.regrown_of (HC0.out _))))
            refine wpQuiet_nil ?_
            intro v0 hw2
            have b : Below w2.heap.size w2 v0 := by obtain ⟨r, hr⟩ := hw2; rw [hr]; exact below_regrown _ _ _
            clear hw2 qk2a qk2b qk2c qk3a qk3b qk3c
            have Sv0 := Lib.hid b.size
            have HB := Lib.hid (chain0 (w := w) (by repeat (first | with_reducible exact Below.refl _ _ | with_reducible exact HB.out | with_reducible apply Below.drew | with_reducible apply bdN | with_reducible refine Below.alloc ?_ (by first | exact Nat.le_refl _ | with_reducible exact HB.out.size | omega | (simp; done) | (simp; omega) | (have := HB.out.size; simp at *; omega)) _)) b)
            have HR := Lib.hid (Rd.below (by repeat (first | with_reducible exact HR.out | with_reducible apply Rd.drewN | with_reducible apply Rd.drew | with_reducible apply Rd.alloc)) b)
            have K2 : Hid (GBox _ (w.heap.size) (⟨33, s, nx, .slice p n c, .slice ps ns cs, .slice pw nw cw⟩)) := Lib.hid (GBox.below (by repeat (first | with_reducible exact K2.out | with_reducible apply GBox.drewN | with_reducible apply GBox.drew | (with_reducible refine GBox.newAt ?_ ?_ <;> first | (simp; done) | rfl) | with_reducible apply GBox.alloc)) b)
            have K3 : Hid (CBox _ (w.heap.size + 1) (⟨61, cl⟩)) := Lib.hid (CBox.below (by repeat (first | with_reducible exact K3.out | with_reducible apply CBox.drewN | with_reducible apply CBox.drew | (with_reducible refine CBox.newAt ?_ ?_ <;> first | (simp; done) | rfl) | with_reducible apply CBox.alloc)) b)
            try clear k2a k2b k2c k2d k2e k2z
            have k2z := K2.out.lt
            obtain ⟨k2a, k2b, k2c, k2d, k2e⟩ := K2.out.cell
            try clear k3a k3b k3c k3d k3z
            have k3z := K3.out.lt
            obtain ⟨k3a, k3b, k3c, k3d⟩ := K3.out.cell
            clear b
            go_wp2_with fail
            rw [rounds_succ]
            go_wp2_with fail
            have qk2a := fun d os => cell_regrown k2a d os
            have qk2b := fun d os => cell_regrown k2b d os
            have qk2c := fun d os => cell_regrown k2c d os
            have qk2d := fun d os => cell_regrown k2d d os
            have qk2e := fun d os => cell_regrown k2e d os
            have qk3a := fun d os => cell_regrown k3a d os
            have qk3b := fun d os => cell_regrown k3b d os
            have qk3c := fun d os => cell_regrown k3c d os
            have qk3d := fun d os => cell_regrown k3d d os
            refine wp_region_quiet_below (by kernel_rfl) (by kernel_rfl) ?_
            repeat (first | go_big_quiet_step ((go_at_call 47; first | with_reducible exact Calls.regrown_of (HC0.out _) | with_reducible exact Calls.regrown_of (HC1.out _))) | quiet_step ((go_at_call 47; first | with_reducible exact Calls.regrown_of (HC0.out _) | with_reducible exact Calls.regrown_of (HC1.out _))))
            refine wpQuiet_nil ?_
            intro v1 hw2
            have b : Below v0.heap.size v0 v1 := by obtain ⟨r, hr⟩ := hw2; rw [hr]; exact below_regrown _ _ _
            clear hw2 qk2a qk2b qk2c qk3a qk3b qk3c
            have Sv1 := Lib.hid b.size
            have HB := Lib.hid (chain0 (w := w) (by repeat (first | with_reducible exact Below.refl _ _ | with_reducible exact HB.out | with_reducible apply Below.drew | with_reducible apply bdN | with_reducible refine Below.alloc ?_ (by first | exact Nat.le_refl _ | with_reducible exact HB.out.size | omega | (simp; done) | (simp; omega) | (have := HB.out.size; simp at *; omega)) _)) b)
            have HR := Lib.hid (Rd.below (by repeat (first | with_reducible exact HR.out | with_reducible apply Rd.drewN | with_reducible apply Rd.drew | with_reducible apply Rd.alloc)) b)
            have K2 : Hid (GBox _ (w.heap.size) (⟨33, s, nx, .slice p n c, .slice ps ns cs, .slice pw nw cw⟩)) := Lib.hid (GBox.below (by repeat (first | with_reducible exact K2.out | with_reducible apply GBox.drewN | with_reducible apply GBox.drew | (with_reducible refine GBox.newAt ?_ ?_ <;> first | (simp; done) | rfl) | with_reducible apply GBox.alloc)) b)
            have K3 : Hid (CBox _ (w.heap.size + 1) (⟨61, cl⟩)) := Lib.hid (CBox.below (by repeat (first | with_reducible exact K3.out | with_reducible apply CBox.drewN | with_reducible apply CBox.drew | (with_reducible refine CBox.newAt ?_ ?_ <;> first | (simp; done) | rfl) | with_reducible apply CBox.alloc)) b)
            try clear k2a k2b k2c k2d k2e k2z
            have k2z := K2.out.lt
            obtain ⟨k2a, k2b, k2c, k2d, k2e⟩ := K2.out.cell
            try clear k3a k3b k3c k3d k3z
            have k3z := K3.out.lt
            obtain ⟨k3a, k3b, k3c, k3d⟩ := K3.out.cell
            clear b
            go_wp2_with fail
            go_ret
            exact ⟨rfl, by repeat (first | with_reducible exact Below.refl _ _ | with_reducible exact HB.out | with_reducible apply Below.drew | with_reducible apply bdN | with_reducible refine Below.alloc ?_ (by first | exact Nat.le_refl _ | with_reducible exact HB.out.size | omega | (simp; done) | (simp; omega) | (have := HB.out.size; simp at *; omega)) _)⟩
        · skip
          have HC0 := Lib.hid (show ∀ w, Calls Try.prog 47 #[.int .i64 cl.b, .int .i64 0, .int .i64 ((n : Int) - 1)] w fun e w' => e = .returned (.bool true) ∧ Below w.heap.size w w' from fun w => by have h := l1_in cl.b 0 ((n : Int) - 1) w; rwa [decide_eq_true hi0] at h)
          have HC1 := Lib.hid (show ∀ w, Calls Try.prog 47 #[.int .i64 cl.c, .int .i64 0, .int .i64 ((n : Int) - 1)] w fun e w' => e = .returned (.bool false) ∧ Below w.heap.size w w' from fun w => by have h := l1_in cl.c 0 ((n : Int) - 1) w; rwa [decide_eq_false hi1] at h)
          have HT := Lib.hid (kind_i (l := l) HRn.out (by rw [H2.out]; unfold onT plc; rw [HN.out]; simp only [Bool.true_and]; exact decide_eq_false (by omega)))
          rw [HT.out]
          go_enter Try.func54, Try.ntmps54
          go_upto_region 1 with fail
          obtain ⟨w0, ew, b⟩ : ∃ wOPN : World, wOPN = ((w.alloc (Gv.obj ⟨33, s, nx, .slice p n c, .slice ps ns cs, .slice pw nw cw⟩)).alloc (Cv.obj ⟨61, cl⟩)) ∧ Below (((w.alloc (Gv.obj ⟨33, s, nx, .slice p n c, .slice ps ns cs, .slice pw nw cw⟩)).alloc (Cv.obj ⟨61, cl⟩))).heap.size (((w.alloc (Gv.obj ⟨33, s, nx, .slice p n c, .slice ps ns cs, .slice pw nw cw⟩)).alloc (Cv.obj ⟨61, cl⟩))) wOPN := ⟨_, rfl, Below.refl _ _⟩
          rw [← ew]
          clear ew
          have Sw0 := Lib.hid b.size
          have HB := Lib.hid (chain0 (w := w) (by repeat (first | with_reducible exact Below.refl _ _ | with_reducible exact HB.out | with_reducible apply Below.drew | with_reducible apply bdN | with_reducible refine Below.alloc ?_ (by first | exact Nat.le_refl _ | with_reducible exact HB.out.size | omega | (simp; done) | (simp; omega) | (have := HB.out.size; simp at *; omega)) _)) b)
          have HR := Lib.hid (Rd.below (by repeat (first | with_reducible exact HR.out | with_reducible apply Rd.drewN | with_reducible apply Rd.drew | with_reducible apply Rd.alloc)) b)
          have K2 : Hid (GBox _ (w.heap.size) (⟨33, s, nx, .slice p n c, .slice ps ns cs, .slice pw nw cw⟩)) := Lib.hid (GBox.below (by repeat (first | with_reducible exact K2.out | with_reducible apply GBox.drewN | with_reducible apply GBox.drew | (with_reducible refine GBox.newAt ?_ ?_ <;> first | (simp; done) | rfl) | with_reducible apply GBox.alloc)) b)
          have K3 : Hid (CBox _ (w.heap.size + 1) (⟨61, cl⟩)) := Lib.hid (CBox.below (by repeat (first | with_reducible exact K3.out | with_reducible apply CBox.drewN | with_reducible apply CBox.drew | (with_reducible refine CBox.newAt ?_ ?_ <;> first | (simp; done) | rfl) | with_reducible apply CBox.alloc)) b)
          try clear k2a k2b k2c k2d k2e k2z
          have k2z := K2.out.lt
          obtain ⟨k2a, k2b, k2c, k2d, k2e⟩ := K2.out.cell
          try clear k3a k3b k3c k3d k3z
          have k3z := K3.out.lt
          obtain ⟨k3a, k3b, k3c, k3d⟩ := K3.out.cell
          clear b
          go_wp2_with fail
          refine ((HPl.out _)).mono ?_
          rintro e w1 ⟨rfl, b⟩
          have Sw1 := Lib.hid b.size
          have HB := Lib.hid (chain0 (w := w) (by repeat (first | with_reducible exact Below.refl _ _ | with_reducible exact HB.out | with_reducible apply Below.drew | with_reducible apply bdN | with_reducible refine Below.alloc ?_ (by first | exact Nat.le_refl _ | with_reducible exact HB.out.size | omega | (simp; done) | (simp; omega) | (have := HB.out.size; simp at *; omega)) _)) b)
          have HR := Lib.hid (Rd.below (by repeat (first | with_reducible exact HR.out | with_reducible apply Rd.drewN | with_reducible apply Rd.drew | with_reducible apply Rd.alloc)) b)
          have K2 : Hid (GBox _ (w.heap.size) (⟨33, s, nx, .slice p n c, .slice ps ns cs, .slice pw nw cw⟩)) := Lib.hid (GBox.below (by repeat (first | with_reducible exact K2.out | with_reducible apply GBox.drewN | with_reducible apply GBox.drew | (with_reducible refine GBox.newAt ?_ ?_ <;> first | (simp; done) | rfl) | with_reducible apply GBox.alloc)) b)
          have K3 : Hid (CBox _ (w.heap.size + 1) (⟨61, cl⟩)) := Lib.hid (CBox.below (by repeat (first | with_reducible exact K3.out | with_reducible apply CBox.drewN | with_reducible apply CBox.drew | (with_reducible refine CBox.newAt ?_ ?_ <;> first | (simp; done) | rfl) | with_reducible apply CBox.alloc)) b)
          try clear k2a k2b k2c k2d k2e k2z
          have k2z := K2.out.lt
          obtain ⟨k2a, k2b, k2c, k2d, k2e⟩ := K2.out.cell
          try clear k3a k3b k3c k3d k3z
          have k3z := K3.out.lt
          obtain ⟨k3a, k3b, k3c, k3d⟩ := K3.out.cell
          clear b
          go_wp2_with fail
          refine ((HLi.out _ HR.out)).mono ?_
          rintro e w2 ⟨rfl, b⟩
          have Sw2 := Lib.hid b.size
          have HB := Lib.hid (chain0 (w := w) (by repeat (first | with_reducible exact Below.refl _ _ | with_reducible exact HB.out | with_reducible apply Below.drew | with_reducible apply bdN | with_reducible refine Below.alloc ?_ (by first | exact Nat.le_refl _ | with_reducible exact HB.out.size | omega | (simp; done) | (simp; omega) | (have := HB.out.size; simp at *; omega)) _)) b)
          have HR := Lib.hid (Rd.below (by repeat (first | with_reducible exact HR.out | with_reducible apply Rd.drewN | with_reducible apply Rd.drew | with_reducible apply Rd.alloc)) b)
          have K2 : Hid (GBox _ (w.heap.size) (⟨33, s, nx, .slice p n c, .slice ps ns cs, .slice pw nw cw⟩)) := Lib.hid (GBox.below (by repeat (first | with_reducible exact K2.out | with_reducible apply GBox.drewN | with_reducible apply GBox.drew | (with_reducible refine GBox.newAt ?_ ?_ <;> first | (simp; done) | rfl) | with_reducible apply GBox.alloc)) b)
          have K3 : Hid (CBox _ (w.heap.size + 1) (⟨61, cl⟩)) := Lib.hid (CBox.below (by repeat (first | with_reducible exact K3.out | with_reducible apply CBox.drewN | with_reducible apply CBox.drew | (with_reducible refine CBox.newAt ?_ ?_ <;> first | (simp; done) | rfl) | with_reducible apply CBox.alloc)) b)
          try clear k2a k2b k2c k2d k2e k2z
          have k2z := K2.out.lt
          obtain ⟨k2a, k2b, k2c, k2d, k2e⟩ := K2.out.cell
          try clear k3a k3b k3c k3d k3z
          have k3z := K3.out.lt
          obtain ⟨k3a, k3b, k3c, k3d⟩ := K3.out.cell
          clear b
          go_wp2_with fail
          refine wp_loop_rounds 4 ?_
          rw [rounds_succ]
          go_wp2_with fail
          have qk2a := fun d os => cell_regrown k2a d os
          have qk2b := fun d os => cell_regrown k2b d os
          have qk2c := fun d os => cell_regrown k2c d os
          have qk2d := fun d os => cell_regrown k2d d os
          have qk2e := fun d os => cell_regrown k2e d os
          have qk3a := fun d os => cell_regrown k3a d os
          have qk3b := fun d os => cell_regrown k3b d os
          have qk3c := fun d os => cell_regrown k3c d os
          have qk3d := fun d os => cell_regrown k3d d os
          refine wp_region_quiet_below (by kernel_rfl) (by kernel_rfl) ?_
          repeat (first | go_big_quiet_step ((go_at_call 47; first | with_reducible exact Calls.regrown_of (HC0.out _))) | quiet_step ((go_at_call 47; first | with_reducible exact Calls.regrown_of (HC0.out _))))
          refine wpQuiet_nil ?_
          intro v0 hw2
          have b : Below w2.heap.size w2 v0 := by obtain ⟨r, hr⟩ := hw2; rw [hr]; exact below_regrown _ _ _
          clear hw2 qk2a qk2b qk2c qk3a qk3b qk3c
          have Sv0 := Lib.hid b.size
          have HB := Lib.hid (chain0 (w := w) (by repeat (first | with_reducible exact Below.refl _ _ | with_reducible exact HB.out | with_reducible apply Below.drew | with_reducible apply bdN | with_reducible refine Below.alloc ?_ (by first | exact Nat.le_refl _ | with_reducible exact HB.out.size | omega | (simp; done) | (simp; omega) | (have := HB.out.size; simp at *; omega)) _)) b)
          have HR := Lib.hid (Rd.below (by repeat (first | with_reducible exact HR.out | with_reducible apply Rd.drewN | with_reducible apply Rd.drew | with_reducible apply Rd.alloc)) b)
          have K2 : Hid (GBox _ (w.heap.size) (⟨33, s, nx, .slice p n c, .slice ps ns cs, .slice pw nw cw⟩)) := Lib.hid (GBox.below (by repeat (first | with_reducible exact K2.out | with_reducible apply GBox.drewN | with_reducible apply GBox.drew | (with_reducible refine GBox.newAt ?_ ?_ <;> first | (simp; done) | rfl) | with_reducible apply GBox.alloc)) b)
          have K3 : Hid (CBox _ (w.heap.size + 1) (⟨61, cl⟩)) := Lib.hid (CBox.below (by repeat (first | with_reducible exact K3.out | with_reducible apply CBox.drewN | with_reducible apply CBox.drew | (with_reducible refine CBox.newAt ?_ ?_ <;> first | (simp; done) | rfl) | with_reducible apply CBox.alloc)) b)
          try clear k2a k2b k2c k2d k2e k2z
          have k2z := K2.out.lt
          obtain ⟨k2a, k2b, k2c, k2d, k2e⟩ := K2.out.cell
          try clear k3a k3b k3c k3d k3z
          have k3z := K3.out.lt
          obtain ⟨k3a, k3b, k3c, k3d⟩ := K3.out.cell
          clear b
          go_wp2_with fail
          rw [rounds_succ]
          go_wp2_with fail
          have qk2a := fun d os => cell_regrown k2a d os
          have qk2b := fun d os => cell_regrown k2b d os
          have qk2c := fun d os => cell_regrown k2c d os
          have qk2d := fun d os => cell_regrown k2d d os
          have qk2e := fun d os => cell_regrown k2e d os
          have qk3a := fun d os => cell_regrown k3a d os
          have qk3b := fun d os => cell_regrown k3b d os
          have qk3c := fun d os => cell_regrown k3c d os
          have qk3d := fun d os => cell_regrown k3d d os
          refine wp_region_quiet_below (by kernel_rfl) (by kernel_rfl) ?_
          repeat (first | go_big_quiet_step ((go_at_call 47; first | with_reducible exact Calls.regrown_of (HC0.out _) | with_reducible exact Calls.regrown_of (HC1.out _))) | quiet_step ((go_at_call 47; first | with_reducible exact Calls.regrown_of (HC0.out _) | with_reducible exact Calls.regrown_of (HC1.out _))))
          refine wpQuiet_nil ?_
          intro v1 hw2
          have b : Below v0.heap.size v0 v1 := by obtain ⟨r, hr⟩ := hw2; rw [hr]; exact below_regrown _ _ _
          clear hw2 qk2a qk2b qk2c qk3a qk3b qk3c
          have Sv1 := Lib.hid b.size
          have HB := Lib.hid (chain0 (w := w) (by repeat (first | with_reducible exact Below.refl _ _ | with_reducible exact HB.out | with_reducible apply Below.drew | with_reducible apply bdN | with_reducible refine Below.alloc ?_ (by first | exact Nat.le_refl _ | with_reducible exact HB.out.size | omega | (simp; done) | (simp; omega) | (have := HB.out.size; simp at *; omega)) _)) b)
          have HR := Lib.hid (Rd.below (by repeat (first | with_reducible exact HR.out | with_reducible apply Rd.drewN | with_reducible apply Rd.drew | with_reducible apply Rd.alloc)) b)
          have K2 : Hid (GBox _ (w.heap.size) (⟨33, s, nx, .slice p n c, .slice ps ns cs, .slice pw nw cw⟩)) := Lib.hid (GBox.below (by repeat (first | with_reducible exact K2.out | with_reducible apply GBox.drewN | with_reducible apply GBox.drew | (with_reducible refine GBox.newAt ?_ ?_ <;> first | (simp; done) | rfl) | with_reducible apply GBox.alloc)) b)
          have K3 : Hid (CBox _ (w.heap.size + 1) (⟨61, cl⟩)) := Lib.hid (CBox.below (by repeat (first | with_reducible exact K3.out | with_reducible apply CBox.drewN | with_reducible apply CBox.drew | (with_reducible refine CBox.newAt ?_ ?_ <;> first | (simp; done) | rfl) | with_reducible apply CBox.alloc)) b)
          try clear k2a k2b k2c k2d k2e k2z
          have k2z := K2.out.lt
          obtain ⟨k2a, k2b, k2c, k2d, k2e⟩ := K2.out.cell
          try clear k3a k3b k3c k3d k3z
          have k3z := K3.out.lt
          obtain ⟨k3a, k3b, k3c, k3d⟩ := K3.out.cell
          clear b
          go_wp2_with fail
          go_ret
          exact ⟨rfl, by repeat (first | with_reducible exact Below.refl _ _ | with_reducible exact HB.out | with_reducible apply Below.drew | with_reducible apply bdN | with_reducible refine Below.alloc ?_ (by first | exact Nat.le_refl _ | with_reducible exact HB.out.size | omega | (simp; done) | (simp; omega) | (have := HB.out.size; simp at *; omega)) _)⟩
      · skip
        have HC0 := Lib.hid (show ∀ w, Calls Try.prog 47 #[.int .i64 cl.b, .int .i64 0, .int .i64 ((n : Int) - 1)] w fun e w' => e = .returned (.bool false) ∧ Below w.heap.size w w' from fun w => by have h := l1_in cl.b 0 ((n : Int) - 1) w; rwa [decide_eq_false hi0] at h)
        have HT := Lib.hid (kind_i (l := l) HRn.out (by rw [H2.out]; unfold onT plc; rw [HN.out]; simp only [Bool.true_and]; exact decide_eq_false (by omega)))
        rw [HT.out]
        go_enter Try.func54, Try.ntmps54
        go_upto_region 1 with fail
        obtain ⟨w0, ew, b⟩ : ∃ wOPN : World, wOPN = ((w.alloc (Gv.obj ⟨33, s, nx, .slice p n c, .slice ps ns cs, .slice pw nw cw⟩)).alloc (Cv.obj ⟨61, cl⟩)) ∧ Below (((w.alloc (Gv.obj ⟨33, s, nx, .slice p n c, .slice ps ns cs, .slice pw nw cw⟩)).alloc (Cv.obj ⟨61, cl⟩))).heap.size (((w.alloc (Gv.obj ⟨33, s, nx, .slice p n c, .slice ps ns cs, .slice pw nw cw⟩)).alloc (Cv.obj ⟨61, cl⟩))) wOPN := ⟨_, rfl, Below.refl _ _⟩
        rw [← ew]
        clear ew
        have Sw0 := Lib.hid b.size
        have HB := Lib.hid (chain0 (w := w) (by repeat (first | with_reducible exact Below.refl _ _ | with_reducible exact HB.out | with_reducible apply Below.drew | with_reducible apply bdN | with_reducible refine Below.alloc ?_ (by first | exact Nat.le_refl _ | with_reducible exact HB.out.size | omega | (simp; done) | (simp; omega) | (have := HB.out.size; simp at *; omega)) _)) b)
        have HR := Lib.hid (Rd.below (by repeat (first | with_reducible exact HR.out | with_reducible apply Rd.drewN | with_reducible apply Rd.drew | with_reducible apply Rd.alloc)) b)
        have K2 : Hid (GBox _ (w.heap.size) (⟨33, s, nx, .slice p n c, .slice ps ns cs, .slice pw nw cw⟩)) := Lib.hid (GBox.below (by repeat (first | with_reducible exact K2.out | with_reducible apply GBox.drewN | with_reducible apply GBox.drew | (with_reducible refine GBox.newAt ?_ ?_ <;> first | (simp; done) | rfl) | with_reducible apply GBox.alloc)) b)
        have K3 : Hid (CBox _ (w.heap.size + 1) (⟨61, cl⟩)) := Lib.hid (CBox.below (by repeat (first | with_reducible exact K3.out | with_reducible apply CBox.drewN | with_reducible apply CBox.drew | (with_reducible refine CBox.newAt ?_ ?_ <;> first | (simp; done) | rfl) | with_reducible apply CBox.alloc)) b)
        try clear k2a k2b k2c k2d k2e k2z
        have k2z := K2.out.lt
        obtain ⟨k2a, k2b, k2c, k2d, k2e⟩ := K2.out.cell
        try clear k3a k3b k3c k3d k3z
        have k3z := K3.out.lt
        obtain ⟨k3a, k3b, k3c, k3d⟩ := K3.out.cell
        clear b
        go_wp2_with fail
        refine ((HPl.out _)).mono ?_
        rintro e w1 ⟨rfl, b⟩
        have Sw1 := Lib.hid b.size
        have HB := Lib.hid (chain0 (w := w) (by repeat (first | with_reducible exact Below.refl _ _ | with_reducible exact HB.out | with_reducible apply Below.drew | with_reducible apply bdN | with_reducible refine Below.alloc ?_ (by first | exact Nat.le_refl _ | with_reducible exact HB.out.size | omega | (simp; done) | (simp; omega) | (have := HB.out.size; simp at *; omega)) _)) b)
        have HR := Lib.hid (Rd.below (by repeat (first | with_reducible exact HR.out | with_reducible apply Rd.drewN | with_reducible apply Rd.drew | with_reducible apply Rd.alloc)) b)
        have K2 : Hid (GBox _ (w.heap.size) (⟨33, s, nx, .slice p n c, .slice ps ns cs, .slice pw nw cw⟩)) := Lib.hid (GBox.below (by repeat (first | with_reducible exact K2.out | with_reducible apply GBox.drewN | with_reducible apply GBox.drew | (with_reducible refine GBox.newAt ?_ ?_ <;> first | (simp; done) | rfl) | with_reducible apply GBox.alloc)) b)
        have K3 : Hid (CBox _ (w.heap.size + 1) (⟨61, cl⟩)) := Lib.hid (CBox.below (by repeat (first | with_reducible exact K3.out | with_reducible apply CBox.drewN | with_reducible apply CBox.drew | (with_reducible refine CBox.newAt ?_ ?_ <;> first | (simp; done) | rfl) | with_reducible apply CBox.alloc)) b)
        try clear k2a k2b k2c k2d k2e k2z
        have k2z := K2.out.lt
        obtain ⟨k2a, k2b, k2c, k2d, k2e⟩ := K2.out.cell
        try clear k3a k3b k3c k3d k3z
        have k3z := K3.out.lt
        obtain ⟨k3a, k3b, k3c, k3d⟩ := K3.out.cell
        clear b
        go_wp2_with fail
        refine ((HLi.out _ HR.out)).mono ?_
        rintro e w2 ⟨rfl, b⟩
        have Sw2 := Lib.hid b.size
        have HB := Lib.hid (chain0 (w := w) (by repeat (first | with_reducible exact Below.refl _ _ | with_reducible exact HB.out | with_reducible apply Below.drew | with_reducible apply bdN | with_reducible refine Below.alloc ?_ (by first | exact Nat.le_refl _ | with_reducible exact HB.out.size | omega | (simp; done) | (simp; omega) | (have := HB.out.size; simp at *; omega)) _)) b)
        have HR := Lib.hid (Rd.below (by repeat (first | with_reducible exact HR.out | with_reducible apply Rd.drewN | with_reducible apply Rd.drew | with_reducible apply Rd.alloc)) b)
        have K2 : Hid (GBox _ (w.heap.size) (⟨33, s, nx, .slice p n c, .slice ps ns cs, .slice pw nw cw⟩)) := Lib.hid (GBox.below (by repeat (first | with_reducible exact K2.out | with_reducible apply GBox.drewN | with_reducible apply GBox.drew | (with_reducible refine GBox.newAt ?_ ?_ <;> first | (simp; done) | rfl) | with_reducible apply GBox.alloc)) b)
        have K3 : Hid (CBox _ (w.heap.size + 1) (⟨61, cl⟩)) := Lib.hid (CBox.below (by repeat (first | with_reducible exact K3.out | with_reducible apply CBox.drewN | with_reducible apply CBox.drew | (with_reducible refine CBox.newAt ?_ ?_ <;> first | (simp; done) | rfl) | with_reducible apply CBox.alloc)) b)
        try clear k2a k2b k2c k2d k2e k2z
        have k2z := K2.out.lt
        obtain ⟨k2a, k2b, k2c, k2d, k2e⟩ := K2.out.cell
        try clear k3a k3b k3c k3d k3z
        have k3z := K3.out.lt
        obtain ⟨k3a, k3b, k3c, k3d⟩ := K3.out.cell
        clear b
        go_wp2_with fail
        refine wp_loop_rounds 4 ?_
        rw [rounds_succ]
        go_wp2_with fail
        have qk2a := fun d os => cell_regrown k2a d os
        have qk2b := fun d os => cell_regrown k2b d os
        have qk2c := fun d os => cell_regrown k2c d os
        have qk2d := fun d os => cell_regrown k2d d os
        have qk2e := fun d os => cell_regrown k2e d os
        have qk3a := fun d os => cell_regrown k3a d os
        have qk3b := fun d os => cell_regrown k3b d os
        have qk3c := fun d os => cell_regrown k3c d os
        have qk3d := fun d os => cell_regrown k3d d os
        refine wp_region_quiet_below (by kernel_rfl) (by kernel_rfl) ?_
        repeat (first | go_big_quiet_step ((go_at_call 47; first | with_reducible exact Calls.regrown_of (HC0.out _))) | quiet_step ((go_at_call 47; first | with_reducible exact Calls.regrown_of (HC0.out _))))
        refine wpQuiet_nil ?_
        intro v0 hw2
        have b : Below w2.heap.size w2 v0 := by obtain ⟨r, hr⟩ := hw2; rw [hr]; exact below_regrown _ _ _
        clear hw2 qk2a qk2b qk2c qk3a qk3b qk3c
        have Sv0 := Lib.hid b.size
        have HB := Lib.hid (chain0 (w := w) (by repeat (first | with_reducible exact Below.refl _ _ | with_reducible exact HB.out | with_reducible apply Below.drew | with_reducible apply bdN | with_reducible refine Below.alloc ?_ (by first | exact Nat.le_refl _ | with_reducible exact HB.out.size | omega | (simp; done) | (simp; omega) | (have := HB.out.size; simp at *; omega)) _)) b)
        have HR := Lib.hid (Rd.below (by repeat (first | with_reducible exact HR.out | with_reducible apply Rd.drewN | with_reducible apply Rd.drew | with_reducible apply Rd.alloc)) b)
        have K2 : Hid (GBox _ (w.heap.size) (⟨33, s, nx, .slice p n c, .slice ps ns cs, .slice pw nw cw⟩)) := Lib.hid (GBox.below (by repeat (first | with_reducible exact K2.out | with_reducible apply GBox.drewN | with_reducible apply GBox.drew | (with_reducible refine GBox.newAt ?_ ?_ <;> first | (simp; done) | rfl) | with_reducible apply GBox.alloc)) b)
        have K3 : Hid (CBox _ (w.heap.size + 1) (⟨61, cl⟩)) := Lib.hid (CBox.below (by repeat (first | with_reducible exact K3.out | with_reducible apply CBox.drewN | with_reducible apply CBox.drew | (with_reducible refine CBox.newAt ?_ ?_ <;> first | (simp; done) | rfl) | with_reducible apply CBox.alloc)) b)
        try clear k2a k2b k2c k2d k2e k2z
        have k2z := K2.out.lt
        obtain ⟨k2a, k2b, k2c, k2d, k2e⟩ := K2.out.cell
        try clear k3a k3b k3c k3d k3z
        have k3z := K3.out.lt
        obtain ⟨k3a, k3b, k3c, k3d⟩ := K3.out.cell
        clear b
        go_wp2_with fail
        go_ret
        exact ⟨rfl, by repeat (first | with_reducible exact Below.refl _ _ | with_reducible exact HB.out | with_reducible apply Below.drew | with_reducible apply bdN | with_reducible refine Below.alloc ?_ (by first | exact Nat.le_refl _ | with_reducible exact HB.out.size | omega | (simp; done) | (simp; omega) | (have := HB.out.size; simp at *; omega)) _)⟩
    · have HT := Lib.hid (kind_r ((right_p (l := l) H2.out).trans H1.out))
      rw [HT.out]
      go_enter Try.func54, Try.ntmps54
      go_upto_region 1 with fail
      obtain ⟨w0, ew, b⟩ : ∃ wOPN : World, wOPN = ((w.alloc (Gv.obj ⟨33, s, nx, .slice p n c, .slice ps ns cs, .slice pw nw cw⟩)).alloc (Cv.obj ⟨61, cl⟩)) ∧ Below (((w.alloc (Gv.obj ⟨33, s, nx, .slice p n c, .slice ps ns cs, .slice pw nw cw⟩)).alloc (Cv.obj ⟨61, cl⟩))).heap.size (((w.alloc (Gv.obj ⟨33, s, nx, .slice p n c, .slice ps ns cs, .slice pw nw cw⟩)).alloc (Cv.obj ⟨61, cl⟩))) wOPN := ⟨_, rfl, Below.refl _ _⟩
      rw [← ew]
      clear ew
      have Sw0 := Lib.hid b.size
      have HB := Lib.hid (chain0 (w := w) (by repeat (first | with_reducible exact Below.refl _ _ | with_reducible exact HB.out | with_reducible apply Below.drew | with_reducible apply bdN | with_reducible refine Below.alloc ?_ (by first | exact Nat.le_refl _ | with_reducible exact HB.out.size | omega | (simp; done) | (simp; omega) | (have := HB.out.size; simp at *; omega)) _)) b)
      have HR := Lib.hid (Rd.below (by repeat (first | with_reducible exact HR.out | with_reducible apply Rd.drewN | with_reducible apply Rd.drew | with_reducible apply Rd.alloc)) b)
      have K2 : Hid (GBox _ (w.heap.size) (⟨33, s, nx, .slice p n c, .slice ps ns cs, .slice pw nw cw⟩)) := Lib.hid (GBox.below (by repeat (first | with_reducible exact K2.out | with_reducible apply GBox.drewN | with_reducible apply GBox.drew | (with_reducible refine GBox.newAt ?_ ?_ <;> first | (simp; done) | rfl) | with_reducible apply GBox.alloc)) b)
      have K3 : Hid (CBox _ (w.heap.size + 1) (⟨61, cl⟩)) := Lib.hid (CBox.below (by repeat (first | with_reducible exact K3.out | with_reducible apply CBox.drewN | with_reducible apply CBox.drew | (with_reducible refine CBox.newAt ?_ ?_ <;> first | (simp; done) | rfl) | with_reducible apply CBox.alloc)) b)
      try clear k2a k2b k2c k2d k2e k2z
      have k2z := K2.out.lt
      obtain ⟨k2a, k2b, k2c, k2d, k2e⟩ := K2.out.cell
      try clear k3a k3b k3c k3d k3z
      have k3z := K3.out.lt
      obtain ⟨k3a, k3b, k3c, k3d⟩ := K3.out.cell
      clear b
      go_wp2_with fail
      refine ((HPl.out _)).mono ?_
      rintro e w1 ⟨rfl, b⟩
      have Sw1 := Lib.hid b.size
      have HB := Lib.hid (chain0 (w := w) (by repeat (first | with_reducible exact Below.refl _ _ | with_reducible exact HB.out | with_reducible apply Below.drew | with_reducible apply bdN | with_reducible refine Below.alloc ?_ (by first | exact Nat.le_refl _ | with_reducible exact HB.out.size | omega | (simp; done) | (simp; omega) | (have := HB.out.size; simp at *; omega)) _)) b)
      have HR := Lib.hid (Rd.below (by repeat (first | with_reducible exact HR.out | with_reducible apply Rd.drewN | with_reducible apply Rd.drew | with_reducible apply Rd.alloc)) b)
      have K2 : Hid (GBox _ (w.heap.size) (⟨33, s, nx, .slice p n c, .slice ps ns cs, .slice pw nw cw⟩)) := Lib.hid (GBox.below (by repeat (first | with_reducible exact K2.out | with_reducible apply GBox.drewN | with_reducible apply GBox.drew | (with_reducible refine GBox.newAt ?_ ?_ <;> first | (simp; done) | rfl) | with_reducible apply GBox.alloc)) b)
      have K3 : Hid (CBox _ (w.heap.size + 1) (⟨61, cl⟩)) := Lib.hid (CBox.below (by repeat (first | with_reducible exact K3.out | with_reducible apply CBox.drewN | with_reducible apply CBox.drew | (with_reducible refine CBox.newAt ?_ ?_ <;> first | (simp; done) | rfl) | with_reducible apply CBox.alloc)) b)
      try clear k2a k2b k2c k2d k2e k2z
      have k2z := K2.out.lt
      obtain ⟨k2a, k2b, k2c, k2d, k2e⟩ := K2.out.cell
      try clear k3a k3b k3c k3d k3z
      have k3z := K3.out.lt
      obtain ⟨k3a, k3b, k3c, k3d⟩ := K3.out.cell
      clear b
      go_wp2_with fail
      refine ((HLi.out _ HR.out)).mono ?_
      rintro e w2 ⟨rfl, b⟩
      have Sw2 := Lib.hid b.size
      have HB := Lib.hid (chain0 (w := w) (by repeat (first | with_reducible exact Below.refl _ _ | with_reducible exact HB.out | with_reducible apply Below.drew | with_reducible apply bdN | with_reducible refine Below.alloc ?_ (by first | exact Nat.le_refl _ | with_reducible exact HB.out.size | omega | (simp; done) | (simp; omega) | (have := HB.out.size; simp at *; omega)) _)) b)
      have HR := Lib.hid (Rd.below (by repeat (first | with_reducible exact HR.out | with_reducible apply Rd.drewN | with_reducible apply Rd.drew | with_reducible apply Rd.alloc)) b)
      have K2 : Hid (GBox _ (w.heap.size) (⟨33, s, nx, .slice p n c, .slice ps ns cs, .slice pw nw cw⟩)) := Lib.hid (GBox.below (by repeat (first | with_reducible exact K2.out | with_reducible apply GBox.drewN | with_reducible apply GBox.drew | (with_reducible refine GBox.newAt ?_ ?_ <;> first | (simp; done) | rfl) | with_reducible apply GBox.alloc)) b)
      have K3 : Hid (CBox _ (w.heap.size + 1) (⟨61, cl⟩)) := Lib.hid (CBox.below (by repeat (first | with_reducible exact K3.out | with_reducible apply CBox.drewN | with_reducible apply CBox.drew | (with_reducible refine CBox.newAt ?_ ?_ <;> first | (simp; done) | rfl) | with_reducible apply CBox.alloc)) b)
      try clear k2a k2b k2c k2d k2e k2z
      have k2z := K2.out.lt
      obtain ⟨k2a, k2b, k2c, k2d, k2e⟩ := K2.out.cell
      try clear k3a k3b k3c k3d k3z
      have k3z := K3.out.lt
      obtain ⟨k3a, k3b, k3c, k3d⟩ := K3.out.cell
      clear b
      go_wp2_with fail
      go_ret
      exact ⟨rfl, by repeat (first | with_reducible exact Below.refl _ _ | with_reducible exact HB.out | with_reducible apply Below.drew | with_reducible apply bdN | with_reducible refine Below.alloc ?_ (by first | exact Nat.le_refl _ | with_reducible exact HB.out.size | omega | (simp; done) | (simp; omega) | (have := HB.out.size; simp at *; omega)) _)⟩
end Go.Proofs.Ytjpfjgoebdogjaa.game

/- IsGame, LinesAhead, PointsOf: the exported functions, the program's and the model's. -/
namespace Go.Proofs.Ytjpfjgoebdogjaa.game
open Go.RowKit
open cards deal
set_option linter.unusedVariables false

/-! Lines ahead. -/
noncomputable def laR (g : Gm) : Int × Bool := if g.ok = true then (ahead g.d, true) else (0, false)
end Go.Proofs.Ytjpfjgoebdogjaa.game

/- ClaimKind: the program's and the model's. -/
namespace Go.Proofs.Ytjpfjgoebdogjaa.game
open Go.RowKit
open cards deal
set_option linter.unusedVariables false

noncomputable def ckR (g : Gm) (cl : Cd) : Int × Bool := if g.ok = true then (kind g.l g.sc.length cl, true) else (0, false)
/-- What is known of the slices of a valid Game. -/
structure OkG (g : Gm) (n ns : Nat) : Prop where
  n : n ≤ 81
  ns : 1 ≤ ns ∧ ns ≤ 4
  ok : g.l.all Cd.ok = true
  nd : g.l.Nodup
theorem okG {g : Gm} {n c ns cs nw cw : Nat} {p ps pw : Option Addr} (hf : FitG n c ns cs nw cw p ps pw g) (h : g.okP) : OkG g n ns :=
  ⟨by have h1 := h.d.len81; have h2 := hf.hn; have h3 : g.l.length ≤ 81 := h1; omega, by have h1 := h.p1; have h2 := h.p4; have h3 := hf.hs; omega, h.d.cards, h.d.2.2.2⟩

end Go.Proofs.Ytjpfjgoebdogjaa.game

/- Stores into a Game's block, and into its tallies. -/
namespace Go.Proofs.Ytjpfjgoebdogjaa.game
open Go.RowKit
open cards deal reg
set_option linter.unusedVariables false

theorem OwnI.apartJ {w : World} {B : Nat} {v : Value} {l : List Int} (h : OwnI w B v l) {p : Addr} (hp : ∀ g, v.ownBlock = some g → g ≠ p.block) (u : Value) : OwnI (w.setCell p u) B v l := by
  obtain ⟨hl, h0 | ⟨g, cap, cur, e, hb, hg, r⟩⟩ := h
  · exact ⟨hl, .inl h0⟩
  · subst e
    exact ⟨hl, .inr ⟨g, cap, cur, rfl, hb, (Below.heap_setCell w p u g (hp g rfl)).trans hg, r⟩⟩
theorem gb_cell (w : World) (g o : Nat) (u : Value) : w.grownBy (w.setCell ⟨g, o, none⟩ u) (some g) := ⟨rfl, rfl, rfl, by simp [World.setCell], fun k hk hne => Below.heap_setCell _ _ _ _ (fun e => hne (by rw [e]))⟩
theorem exec_index0 {k n b cp : Nat} (hk : k < n) {a : Act} {o : Oper} {p q : Operand} (ho : o.op = .indexAddr 25 p q) (hp : a.eval p = .slice (some ⟨b, 0, none⟩) n cp) (hq : a.eval q = .int .i64 k) (w : World) :
    (execOp a.eval o).run Try.prog w = .ok (.value (.pointer (some ⟨b, k, none⟩))) w := by
  have h := exec_indexI (ad := 0) hk ho hp hq w
  rwa [Nat.zero_add] at h
theorem offC {w : World} {B C g : Nat} {vl vs vw : Value} {l : List Cd} {sc wr : List Int} (h : OwnG w B C vl vs vw l sc wr) {x : Cd} (hb : CBox w g ⟨61, x⟩) : OffG g vl vs vw :=
  ⟨row_apart (t := 61) h.o1 hb (by decide), row_apart (t := 61) h.o2 hb (by decide), row_apart (t := 61) h.o3 hb (by decide)⟩
/-- There are so many blocks, at least. -/
structure SzA (w : World) (n : Nat) : Prop where
  h : n ≤ w.heap.size
theorem SzA.below {w w1 : World} {n : Nat} (h : SzA w n) (b : Below w.heap.size w w1) : SzA w1 n := ⟨Nat.le_trans h.h b.size⟩
theorem SzA.alloc {w : World} {n : Nat} (h : SzA w n) (o : Obj) : SzA (w.alloc o) n := h.below ((Below.refl _ _).alloc (Nat.le_refl _) o)
theorem SzA.drew {w : World} {n : Nat} (h : SzA w n) : SzA w.drew n := h.below ((Below.refl _ _).drew)
theorem SzA.drewN {w : World} {n : Nat} (h : SzA w n) (k : Nat) : SzA (w.drewN k) n := h.below (bdN (Below.refl _ _) k)
/-- A Deal is stored into a Game's block. -/
theorem deal_sets {w : World} {g : Nat} {t : TypeId} {s0 n0 : Int} {v0 u0 q0 : Value} (h : GBox w g ⟨t, s0, n0, v0, u0, q0⟩) (s n : Int) (v : Value) :
    GBox (((w.setCell ⟨g, 0, none⟩ (.int .i64 s)).setCell ⟨g, 1, none⟩ (.int .i64 n)).setCell ⟨g, 2, none⟩ v) g ⟨t, s, n, v, u0, q0⟩ ∧ w.grownBy (((w.setCell ⟨g, 0, none⟩ (.int .i64 s)).setCell ⟨g, 1, none⟩ (.int .i64 n)).setCell ⟨g, 2, none⟩ v) (some g) :=
  ⟨((h.set0 s).set1 n).set2 v, ((gb_cell w g 0 _).trans (gb_cell _ g 1 _)).trans (gb_cell _ g 2 _)⟩
theorem GBox.grown {w w1 : World} {g g2 : Nat} {x : Gv} (h : GBox w g x) (hg : w.grownBy w1 (some g2)) (hne : g ≠ g2) : GBox w1 g x := (hg.block g h.lt (fun e => hne (Option.some.inj e))).trans h
theorem CBox.grown {w w1 : World} {g g2 : Nat} {x : Cv} (h : CBox w g x) (hg : w.grownBy w1 (some g2)) (hne : g ≠ g2) : CBox w1 g x := (hg.block g h.lt (fun e => hne (Option.some.inj e))).trans h
theorem Below.by_ {B : Nat} {w w0 w1 : World} {g : Nat} (h : Below B w0 w) (hg : w.grownBy w1 (some g)) (hB : B ≤ w.heap.size) (hgB : B ≤ g) : Below B w0 w1 := Below.grown h hg hB (fun k hk => by injection hk with hk; omega)
/-- The tallies of the call's own lie in a block that holds no Game and no Claim. -/
theorem own_ps {w : World} {B n : Nat} {v : Value} {l : List Int} (h : OwnI w B v l) (hn : l.length = n) (hp : 0 < n) : ∃ g c, v = .slice (some ⟨g, 0, none⟩) n c := by
  obtain ⟨p, c, rfl, _, _, hg⟩ := h.form
  obtain ⟨g, rfl, _⟩ := hg (by omega)
  exact ⟨g, c, by rw [hn]⟩
theorem bump_sets {w : World} {B C gs n c : Nat} {vl vw : Value} {l : List Cd} {sc wt : List Int} (h : OwnG w B C vl (.slice (some ⟨gs, 0, none⟩) n c) vw l sc wt) (hn : sc.length = n) (k : Nat) (x : Int) (hx : sc[k]? = some x) :
    OwnG (w.setCell ⟨gs, k, none⟩ (.int .i64 (more x))) B C vl (.slice (some ⟨gs, 0, none⟩) n c) vw l (bump sc k) wt := by
  rw [bump_at hx]
  exact ⟨Own.apart h.o1 (fun g e e2 => h.a12 g e (by rw [show g = gs from e2]; rfl)) _, OwnI.store hn h.o2 k (more x), OwnI.apartJ h.o3 (fun g e e2 => h.a23 g (by rw [show g = gs from e2]; rfl) e) _, h.a12, h.a13, h.a23, h.c1, h.c2, h.c3⟩
theorem bump_setsW {w : World} {B C gs n c : Nat} {vl vs : Value} {l : List Cd} {sc wt : List Int} (h : OwnG w B C vl vs (.slice (some ⟨gs, 0, none⟩) n c) l sc wt) (hn : wt.length = n) (k : Nat) (x : Int) (hx : wt[k]? = some x) :
    OwnG (w.setCell ⟨gs, k, none⟩ (.int .i64 (more x))) B C vl vs (.slice (some ⟨gs, 0, none⟩) n c) l sc (bump wt k) := by
  rw [bump_at hx]
  exact ⟨Own.apart h.o1 (fun g e e2 => h.a13 g e (by rw [show g = gs from e2]; rfl)) _, OwnI.apartJ h.o2 (fun g e e2 => h.a23 g e (by rw [show g = gs from e2]; rfl)) _, OwnI.store hn h.o3 k (more x), h.a12, h.a13, h.a23, h.c1, h.c2, h.c3⟩
/-- What is to come of a Deal whose line is laid for. -/
theorem over_iff {d : Dl} (h : d.okP) (hs : stuckD d = true) (ho : overD d = false) : d.nx < 81 := by
  unfold overD at ho
  rw [hs, Bool.and_true, decide_eq_false_iff_not] at ho
  have := h.2.1.2
  omega
theorem over_no {d : Dl} (ho : overD d = true) : ¬ d.nx < 81 := by
  unfold overD at ho
  rw [Bool.and_eq_true, decide_eq_true_iff] at ho
  omega
end Go.Proofs.Ytjpfjgoebdogjaa.game

/- A region that draws its order: operations that only read, then the rest one behind the other, calls among them. -/
namespace Go.Proofs.Ytjpfjgoebdogjaa.cards
open Go.RowKit
open reg
set_option linter.unusedVariables false

section
variable {P : Program} {md : Region.Mode} {ops : Array Oper} {Q : Exit → Act → World → Prop} {S : World → Prop}
def runsU (P : Program) (ops : Array Oper) (S : World → Prop) (K : Act → World → Prop) : List Nat → Act → World → Prop
  | [], a, w => K a w
  | j :: r, a, w => ∃ o, ops[j]? = some o ∧ o.guard = none ∧ (Upon P (fun v w' => S w' ∧ runsU P ops S K r (a.put o.dst v) w') ((execOp a.eval o).run P w) ∨ ∃ w', (execOp a.eval o).run P w = .ok .skip w' ∧ S w' ∧ runsU P ops S K r (a.put o.dst undef) w')
theorem sequ_of : ∀ (st : List Nat) (l : Array Bool) (a : Act) (w : World), seqS md ops st l = true → runsU P ops S (Q .normal) st a w → wpAnyH P md ops Q S st.length l a w
  | [], l, a, w, hok, h => wpAnyH_done (by simpa [seqS] using hok) h 0
  | j :: r, l, a, w, hok, h => by
    simp only [seqS, Bool.and_eq_true, beq_iff_eq] at hok
    obtain ⟨o, ho, hg, hrun⟩ := h
    refine wpAnyH_all hok.1 (by simp) fun i hi => ?_
    obtain rfl : i = j := by simpa using hi
    rcases hrun with hrun | ⟨w', hrun, hS', hr⟩
    · exact wpOp_upon ho hg hrun fun v w' hJ => ⟨hJ.1, sequ_of r _ _ _ hok.2 hJ.2⟩
    · unfold wpOp
      simp only [ho, wanted_of hg, if_true]
      refine .inl ?_
      unfold Oper.wp
      rw [hrun]
      exact ⟨hS', sequ_of r _ _ _ hok.2 hr⟩
theorem runsU_mono {K K2 : Act → World → Prop} (hK : ∀ a w, K a w → K2 a w) : ∀ (st : List Nat) (a : Act) (w : World), runsU P ops S K st a w → runsU P ops S K2 st a w
  | [], a, w, h => hK a w h
  | j :: st, a, w, h => by
    obtain ⟨o, e1, e2, e3⟩ := h
    refine ⟨o, e1, e2, ?_⟩
    rcases e3 with e3 | ⟨w', h1, h2, h3⟩
    · exact .inl (Upon.imp e3 fun v w' hv => ⟨hv.1, runsU_mono hK st _ _ hv.2⟩)
    · exact .inr ⟨w', h1, h2, runsU_mono hK st _ _ h3⟩
theorem u_val {K : Act → World → Prop} {j : Nat} {r : List Nat} {a : Act} {w w' : World} {o : Oper} {v : Value} (ho : ops[j]? = some o) (hg : o.guard = none) (he : (execOp a.eval o).run P w = .ok (.value v) w') (hS : S w') (hr : runsU P ops S K r (a.put o.dst v) w') : runsU P ops S K (j :: r) a w :=
  ⟨o, ho, hg, .inl (by rw [he]; exact ⟨hS, hr⟩)⟩
theorem u_skip {K : Act → World → Prop} {j : Nat} {r : List Nat} {a : Act} {w w' : World} {o : Oper} (ho : ops[j]? = some o) (hg : o.guard = none) (he : (execOp a.eval o).run P w = .ok .skip w') (hS : S w') (hr : runsU P ops S K r (a.put o.dst undef) w') : runsU P ops S K (j :: r) a w :=
  ⟨o, ho, hg, .inr ⟨w', he, hS, hr⟩⟩
theorem u_call {K : Act → World → Prop} {j : Nat} {r : List Nat} {a : Act} {w : World} {o : Oper} {f : FuncId} {args : Array Value} (ho : ops[j]? = some o) (hg : o.guard = none) (he : (execOp a.eval o).run P w = .ok (.enter f args) w)
    (hc : Calls P f args w (fun e w' => ∃ v, e = .returned v ∧ S w' ∧ runsU P ops S K r (a.put o.dst v) w')) : runsU P ops S K (j :: r) a w :=
  ⟨o, ho, hg, .inl (Upon.enter he hc)⟩
/-- THE LAW. -/
theorem region_seq {id : Nat} {a : Act} {w : World} (r st : List Nat) (hm : P.follows .mixedOrders = true)
    (hok : okPJ .any ops [] st r (Array.replicate ops.size false) = true) (hlen : ops.size = r.length + (0 + st.length)) (hsel : Region.noSelect ops = true)
    (S : World → Prop) (hc : ∀ w', BI w w' → S w')
    (h : pureJ P ops S (fun b => ∀ w', BI w w' → runsU P ops S (Q .normal) st b w') r a) : (Code.region id ops true).wp P Q a w := by
  refine wp_region_noPanic (wp_region_held hm (S := S) ?_)
  have k := pures_of (md := .any) (Q := NoPanic Q) (S := S) (I := BI w) (js := []) (st := st) hsel (fun _ _ _ _ _ h => h) hc (K := fun b => ∀ w', BI w w' → runsU P ops S (Q .normal) st b w') (fun b w' l hK hI hok => by
    simp only [List.length_nil, okJ, Bool.and_eq_true] at hok
    rw [List.length_nil, Nat.zero_add]
    exact sequ_of st l b w' hok.2 (runsU_mono (fun a w h => NoPanic.normal h) st _ _ (hK w' hI))) r _ a _ hok (BI.start w) h
  simp only [List.length_nil] at k
  rw [← hlen] at k; exact k
end
end Go.Proofs.Ytjpfjgoebdogjaa.cards

/- A claim is made: the program's. -/
namespace Go.Proofs.Ytjpfjgoebdogjaa.game
open Go.RowKit
open cards deal reg
set_option linter.unusedVariables false

set_option maxRecDepth 100000 in
set_option maxHeartbeats 4000000 in
theorem impl_mk (s : Int) (a0 : Nat) (l : List Cd) (sc wt : List Int) (cl : Cd) (p ps pw : Option Addr) (n c ns cs nw cw : Nat) (w : World) (ho : (Gm.mk s a0 l sc wt).okP) (hn : l.length = n) (hs : sc.length = ns) (hw : wt.length = nw) (h0 : p = none → c = 0) (hr : RdG w p ps pw l sc wt) (hc : wfc cl) :
    Calls Try.prog 60 #[gval s a0 (.slice p n c) (.slice ps ns cs) (.slice pw nw cw), cl.val] w fun e w' => ∃ vl vs vw, e = .returned (.tuple #[gval s (made ⟨s, a0, l, sc, wt⟩ cl).nx vl vs vw, .int .i64 (madeK ⟨s, a0, l, sc, wt⟩ cl)]) ∧ OwnG w' w.heap.size w'.heap.size vl vs vw (made ⟨s, a0, l, sc, wt⟩ cl).l (made ⟨s, a0, l, sc, wt⟩ cl).sc (made ⟨s, a0, l, sc, wt⟩ cl).wr ∧ Below w.heap.size w w' := by
  have hd0 : (Dl.mk s a0 l).okP := ho.d
  have hn81 : n ≤ 81 := by rw [← hn]; exact hd0.len81
  have hns1 : 0 < ns := by rw [← hs]; exact ho.p1
  have hns4 : ns ≤ 4 := by rw [← hs]; exact ho.p4
  have hnw : nw = ns := by rw [← hw, ← hs]; exact ho.eq
  subst hnw
  have HO := Lib.hid ho
  have HN := Lib.hid hn
  have HS := Lib.hid hs
  have HW := Lib.hid hw
  have HR0 := Lib.hid hr
  have H0 := Lib.hid h0
  have HD0 := Lib.hid hd0
  have HU := Lib.hid (up_ok hd0)
  have HUs := Lib.hid (up_s hd0)
  have HMk : Hid (made ⟨s, a0, l, sc, wt⟩ cl = ⟨(madeD ⟨s, a0, l, sc, wt⟩ cl).s, (madeD ⟨s, a0, l, sc, wt⟩ cl).nx, (madeD ⟨s, a0, l, sc, wt⟩ cl).l, madeS ⟨s, a0, l, sc, wt⟩ cl, madeW ⟨s, a0, l, sc, wt⟩ cl⟩) := Lib.hid rfl
  have HK : Hid (madeK ⟨s, a0, l, sc, wt⟩ cl = kind (up ⟨s, a0, l⟩).l nw cl) := Lib.hid (by rw [← hs]; rfl)
  have HMD : Hid (madeD ⟨s, a0, l, sc, wt⟩ cl = if madeK ⟨s, a0, l, sc, wt⟩ cl = 1 then takeD (up ⟨s, a0, l⟩) (plc cl) else up ⟨s, a0, l⟩) := Lib.hid rfl
  have HMS : Hid (madeS ⟨s, a0, l, sc, wt⟩ cl = if madeK ⟨s, a0, l, sc, wt⟩ cl = 1 then bump sc cl.a.toNat else sc) := Lib.hid rfl
  have HMW : Hid (madeW ⟨s, a0, l, sc, wt⟩ cl = if madeK ⟨s, a0, l, sc, wt⟩ cl = 2 then bump wt cl.a.toNat else wt) := Lib.hid rfl
  obtain ⟨G, hG⟩ : ∃ G, made ⟨s, a0, l, sc, wt⟩ cl = G := ⟨_, rfl⟩
  rw [hG] at HMk ⊢
  clear hG
  obtain ⟨kd, hkd⟩ : ∃ kd, madeK ⟨s, a0, l, sc, wt⟩ cl = kd := ⟨_, rfl⟩
  rw [hkd] at HK HMD HMS HMW ⊢
  clear hkd
  obtain ⟨MD, hMD⟩ : ∃ MD, madeD ⟨s, a0, l, sc, wt⟩ cl = MD := ⟨_, rfl⟩
  obtain ⟨MS, hMS⟩ : ∃ MS, madeS ⟨s, a0, l, sc, wt⟩ cl = MS := ⟨_, rfl⟩
  obtain ⟨MW, hMW⟩ : ∃ MW, madeW ⟨s, a0, l, sc, wt⟩ cl = MW := ⟨_, rfl⟩
  rw [hMD, hMS, hMW] at HMk
  rw [hMD] at HMD
  rw [hMS] at HMS
  rw [hMW] at HMW
  clear hMD hMS hMW
  obtain ⟨U, hU⟩ : ∃ U, up ⟨s, a0, l⟩ = U := ⟨_, rfl⟩
  rw [hU] at HU HUs HK HMD
  have HUe := Lib.hid hU
  have HCp := Lib.hid (fun w h => copy_game s a0 l sc wt p ps pw n c nw cs nw cw w hn hs hw (by omega) (by omega) (by omega) h)
  clear ho hn hs hw hr h0 hd0 hU
  have K3 : Hid (CBox (((w.alloc (Gv.obj ⟨33, s, a0, .slice p n c, .slice ps nw cs, .slice pw nw cw⟩)).alloc (Cv.obj ⟨61, cl⟩)).alloc (Gv.obj ⟨33, 0, 0, .slice none 0 0, .slice none 0 0, .slice none 0 0⟩)) (w.heap.size + 1) ⟨61, cl⟩) := Lib.hid ((CBox.newAt (by simp) rfl).alloc _)
  have K4 : Hid (GBox (((w.alloc (Gv.obj ⟨33, s, a0, .slice p n c, .slice ps nw cs, .slice pw nw cw⟩)).alloc (Cv.obj ⟨61, cl⟩)).alloc (Gv.obj ⟨33, 0, 0, .slice none 0 0, .slice none 0 0, .slice none 0 0⟩)) (w.heap.size + 1 + 1) ⟨33, 0, 0, .slice none 0 0, .slice none 0 0, .slice none 0 0⟩) := Lib.hid (GBox.newAt (by simp) rfl)
  have K2 : Hid (GBox (((w.alloc (Gv.obj ⟨33, s, a0, .slice p n c, .slice ps nw cs, .slice pw nw cw⟩)).alloc (Cv.obj ⟨61, cl⟩)).alloc (Gv.obj ⟨33, 0, 0, .slice none 0 0, .slice none 0 0, .slice none 0 0⟩)) w.heap.size ⟨33, s, a0, .slice p n c, .slice ps nw cs, .slice pw nw cw⟩) := Lib.hid (((GBox.newAt rfl rfl).alloc _).alloc _)
  have HB : Hid (Below w.heap.size w (((w.alloc (Gv.obj ⟨33, s, a0, .slice p n c, .slice ps nw cs, .slice pw nw cw⟩)).alloc (Cv.obj ⟨61, cl⟩)).alloc (Gv.obj ⟨33, 0, 0, .slice none 0 0, .slice none 0 0, .slice none 0 0⟩))) := Lib.hid ((((Below.refl _ _).alloc (Nat.le_refl _) _).alloc (by simp) _).alloc (by simp; omega) _)
  go_enter Try.func60, Try.ntmps60
  go_upto_region 1 with fail
  generalize (((w.alloc (Gv.obj ⟨33, s, a0, .slice p n c, .slice ps nw cs, .slice pw nw cw⟩)).alloc (Cv.obj ⟨61, cl⟩)).alloc (Gv.obj ⟨33, 0, 0, .slice none 0 0, .slice none 0 0, .slice none 0 0⟩)) = W0 at K2 K3 K4 HB ⊢
  have HZ0 := Lib.hid (show w.heap.size + 1 + 1 + 1 ≤ W0.heap.size from K4.out.lt)
  obtain ⟨k2a, k2b, k2c, k2d, k2e⟩ := K2.out.cell
  have k2z := K2.out.lt
  have HR := Lib.hid (RdG.below HR0.out HB.out)
  go_wp2_with fail
  refine (HCp.out _ (by repeat (first | with_reducible exact HR.out | with_reducible apply RdG.drewN | with_reducible apply RdG.drew | with_reducible apply RdG.alloc))).mono ?_
  rintro e w1 ⟨vl, vs, vw, rfl, hg1, b⟩
  have HB1 := Lib.hid (chain0 (w := w) HB.out b)
  have K31 := Lib.hid (K3.out.below b)
  have K41 := Lib.hid (K4.out.below b)
  have HG1 := Lib.hid (hg1.base (show w.heap.size + 1 + 1 + 1 ≤ W0.heap.size from HZ0.out))
  have HZ1 := Lib.hid (Nat.le_trans HZ0.out b.size)
  clear b hg1 k2a k2b k2c k2d k2e k2z HB K2 K3 K4 HR
  obtain ⟨gs, cs1, rfl⟩ := own_ps HG1.out.o2 HS.out hns1
  obtain ⟨gw, cw1, rfl⟩ := own_ps HG1.out.o3 HW.out hns1
  obtain ⟨p1, c1, rfl, -⟩ := HG1.out.o1.form
  rw [HN.out] at HG1 ⊢
  have K6 : Hid (GBox (w1.alloc (Gv.obj ⟨33, s, a0, .slice p1 n c1, .slice (some ⟨gs, 0, none⟩) nw cs1, .slice (some ⟨gw, 0, none⟩) nw cw1⟩)) w1.heap.size ⟨33, s, a0, .slice p1 n c1, .slice (some ⟨gs, 0, none⟩) nw cs1, .slice (some ⟨gw, 0, none⟩) nw cw1⟩) := Lib.hid (GBox.newAt rfl rfl)
  have HB2 := Lib.hid (HB1.out.alloc HB1.out.size (Gv.obj ⟨33, s, a0, .slice p1 n c1, .slice (some ⟨gs, 0, none⟩) nw cs1, .slice (some ⟨gw, 0, none⟩) nw cw1⟩))
  have K32 := Lib.hid (K31.out.alloc (Gv.obj ⟨33, s, a0, .slice p1 n c1, .slice (some ⟨gs, 0, none⟩) nw cs1, .slice (some ⟨gw, 0, none⟩) nw cw1⟩))
  have K42 := Lib.hid (K41.out.alloc (Gv.obj ⟨33, s, a0, .slice p1 n c1, .slice (some ⟨gs, 0, none⟩) nw cs1, .slice (some ⟨gw, 0, none⟩) nw cw1⟩))
  have HG2 := Lib.hid (HG1.out.alloc (Gv.obj ⟨33, s, a0, .slice p1 n c1, .slice (some ⟨gs, 0, none⟩) nw cs1, .slice (some ⟨gw, 0, none⟩) nw cw1⟩))
  obtain ⟨g6, hg6⟩ : ∃ g6, w1.heap.size = g6 := ⟨_, rfl⟩
  rw [hg6] at K6
  have HG6 := Lib.hid (show w.heap.size + 1 + 1 + 1 ≤ g6 by have := HZ1.out; omega)
  go_upto_block 0 with fail
  try rw [hg6]
  have HC6 := Lib.hid (show g6 ≤ (w1.alloc (Gv.obj ⟨33, s, a0, .slice p1 n c1, .slice (some ⟨gs, 0, none⟩) nw cs1, .slice (some ⟨gw, 0, none⟩) nw cw1⟩)).heap.size by have := K6.out.lt; omega)
  rw [hg6] at HG2
  clear hg6
  have HG3 := Lib.hid (HG2.out.top HC6.out)
  clear HG1 K31 K41 HB1 HG2 HZ1 HZ0
  generalize (w1.alloc (Gv.obj ⟨33, s, a0, .slice p1 n c1, .slice (some ⟨gs, 0, none⟩) nw cs1, .slice (some ⟨gw, 0, none⟩) nw cw1⟩)) = W2 at K6 HB2 K32 K42 HG3 HC6 ⊢
  clear w1
  go_cut [] from 8 (fun wx => ∃ (a : Nat) (m : Nat) (L : List Cd) (p2 : Option Addr) (c2 : Nat), m ≤ 81 ∧ a ≤ 81 ∧ L.length = m ∧ Hid (U = ⟨s, a, L⟩) ∧ Hid (GBox wx g6 ⟨33, s, a, .slice p2 m c2, .slice (some ⟨gs, 0, none⟩) nw cs1, .slice (some ⟨gw, 0, none⟩) nw cw1⟩) ∧ Hid (OwnG wx (w.heap.size + 1 + 1 + 1) wx.heap.size (.slice p2 m c2) (.slice (some ⟨gs, 0, none⟩) nw cs1) (.slice (some ⟨gw, 0, none⟩) nw cw1) L sc wt) ∧ Hid (Below w.heap.size w wx) ∧ Hid (CBox wx (w.heap.size + 1) ⟨61, cl⟩) ∧ Hid (GBox wx (w.heap.size + 1 + 1) ⟨33, 0, 0, .slice none 0 0, .slice none 0 0, .slice none 0 0⟩))
  case first =>
    go_wp2_with fail
    go_loopg [] 81 (fun k wr => ∃ (a : Nat) (m : Nat) (L : List Cd) (p2 : Option Addr) (c2 : Nat), m ≤ 81 ∧ a ≤ 81 ∧ 81 - a ≤ k ∧ L.length = m ∧ Hid (up ⟨s, a, L⟩ = U) ∧ Hid ((Dl.mk s a L).okP) ∧ Hid (GBox wr g6 ⟨33, s, a, .slice p2 m c2, .slice (some ⟨gs, 0, none⟩) nw cs1, .slice (some ⟨gw, 0, none⟩) nw cw1⟩) ∧ Hid (OwnG wr (w.heap.size + 1 + 1 + 1) wr.heap.size (.slice p2 m c2) (.slice (some ⟨gs, 0, none⟩) nw cs1) (.slice (some ⟨gw, 0, none⟩) nw cw1) L sc wt) ∧ Hid (Below w.heap.size w wr) ∧ Hid (CBox wr (w.heap.size + 1) ⟨61, cl⟩) ∧ Hid (GBox wr (w.heap.size + 1 + 1) ⟨33, 0, 0, .slice none 0 0, .slice none 0 0, .slice none 0 0⟩))
    case atStart => exact ⟨a0, n, l, p1, c1, hn81, (by have := HD0.out.2.1.2; simp only at this; omega), by omega, HN.out, HUe, HD0, K6, HG3, HB2, K32, K42⟩
    case round =>
      clear K6 HB2 K32 K42 HG3 HC6
      obtain ⟨a, m, L, p2, c2, hm, ha, hk, hLm, HUe2, HOk, K6, HG, HB, K3, K4⟩ := hrel
      obtain ⟨k6a, k6b, k6c, k6d, k6e⟩ := K6.out.cell
      have k6z := K6.out.lt
      have k6f := K6.out.frozen
      have HLm := Lib.hid hLm
      have HR := Lib.hid (Own.rd HG.out.o1)
      have HZr : Hid (SzA wr wr.heap.size) := Lib.hid ⟨Nat.le_refl _⟩
      have HSt := Lib.hid (fun w h => is_stuck s a L p2 m c2 w hLm hm h HOk.out.cards)
      have HOv := Lib.hid (fun w h => is_over s a L p2 m c2 w hLm hm h HOk.out.cards)
      have HN0 := Lib.hid (Own.nil0 HG.out.o1)
      clear hLm
      cases hst : stuckD ⟨s, a, L⟩
      · have HE := Lib.hid (HUe2.out.symm.trans (up_stop (fun h => by rw [hst] at h; exact absurd h.1 (by decide))))
        rw [hst] at HSt
        clear hst HOv
        go_wp2_with fail
        refine ((HSt.out _ (by repeat (first | with_reducible exact HR.out | with_reducible apply Rd.drewN | with_reducible apply Rd.drew | with_reducible apply Rd.alloc)))).mono ?_
        rintro e w3 ⟨rfl, b⟩
        have Sw3 := Lib.hid b.size
        have HB := Lib.hid (chain0 (w := w) (by repeat (first | with_reducible exact Below.refl _ _ | with_reducible exact HB.out | with_reducible apply Below.drew | with_reducible apply bdN | with_reducible refine Below.alloc ?_ (by first | exact Nat.le_refl _ | with_reducible exact HB.out.size | omega | (simp; done) | (simp; omega) | (have := HB.out.size; simp at *; omega)) _ | with_reducible refine Below.setCell ?_ (by first | exact Nat.le_refl _ | with_reducible exact HB.out.size | omega | (simp; done) | (simp; omega) | (have := HB.out.size; simp at *; omega)) _)) b)
        have HZr := Lib.hid (SzA.below (by repeat (first | with_reducible exact HZr.out | with_reducible apply SzA.drewN | with_reducible apply SzA.drew | with_reducible apply SzA.alloc)) b)
        have HG := Lib.hid (OwnG.below (by repeat (first | with_reducible exact HG.out | with_reducible apply OwnG.drewN | with_reducible apply OwnG.drew | with_reducible apply OwnG.alloc)) b)
        have HR := Lib.hid (Rd.below (by repeat (first | with_reducible exact HR.out | with_reducible apply Rd.drewN | with_reducible apply Rd.drew | with_reducible apply Rd.alloc)) b)
        have K6 : Hid (GBox _ (g6) (⟨33, s, a, .slice p2 m c2, .slice (some ⟨gs, 0, none⟩) nw cs1, .slice (some ⟨gw, 0, none⟩) nw cw1⟩)) := Lib.hid (GBox.below (by repeat (first | with_reducible exact K6.out | with_reducible apply GBox.drewN | with_reducible apply GBox.drew | (with_reducible refine GBox.newAt ?_ ?_ <;> first | (simp; done) | rfl) | with_reducible apply GBox.alloc)) b)
        have K3 : Hid (CBox _ (w.heap.size + 1) (⟨61, cl⟩)) := Lib.hid (CBox.below (by repeat (first | with_reducible exact K3.out | with_reducible apply CBox.drewN | with_reducible apply CBox.drew | (with_reducible refine CBox.newAt ?_ ?_ <;> first | (simp; done) | rfl) | with_reducible apply CBox.alloc)) b)
        have K4 : Hid (GBox _ (w.heap.size + 1 + 1) (⟨33, 0, 0, .slice none 0 0, .slice none 0 0, .slice none 0 0⟩)) := Lib.hid (GBox.below (by repeat (first | with_reducible exact K4.out | with_reducible apply GBox.drewN | with_reducible apply GBox.drew | (with_reducible refine GBox.newAt ?_ ?_ <;> first | (simp; done) | rfl) | with_reducible apply GBox.alloc)) b)
        try clear k6a k6b k6c k6d k6e k6z
        have k6z := K6.out.lt
        obtain ⟨k6a, k6b, k6c, k6d, k6e⟩ := K6.out.cell
        try clear k6f
        have k6f := K6.out.frozen
        try clear k3a k3b k3c k3d k3z
        have k3z := K3.out.lt
        obtain ⟨k3a, k3b, k3c, k3d⟩ := K3.out.cell
        try clear k4a k4b k4c k4d k4e k4z
        have k4z := K4.out.lt
        obtain ⟨k4a, k4b, k4c, k4d, k4e⟩ := K4.out.cell
        clear b
        go_wp2_with fail
        go_meet
        case rel => exact ⟨a, m, L, p2, c2, hm, ha, HLm.out, HE, K6, HG.out.top HZr.out.h, HB, K3, K4⟩
      · cases hov : overD ⟨s, a, L⟩
        · have HGo := Lib.hid (over_iff HOk.out hst hov)
          have hup := up_go HOk.out ⟨hst, HGo.out⟩
          have hnx := lay3_nx HOk.out HGo.out
          have hlok := lay_ok (n := 3) HOk.out (by omega)
          have HLy := Lib.hid (fun w h => impl_lay s a 3 L p2 m c2 w HOk.out.1 ha ⟨by omega, by omega⟩ HLm.out (by omega) h HN0.out)
          obtain ⟨L2, hL2⟩ : ∃ L2, (layD ⟨s, a, L⟩ 3).l = L2 := ⟨_, rfl⟩
          obtain ⟨a2, ha2⟩ : ∃ a2 : Nat, (layD ⟨s, a, L⟩ 3).nx = (a2 : Int) := ⟨(layD ⟨s, a, L⟩ 3).nx.toNat, by have := hlok.2.1.1; omega⟩
          have hD2 : layD ⟨s, a, L⟩ 3 = ⟨s, a2, L2⟩ := by rw [← ha2, ← hL2]; rfl
          obtain ⟨m2, hm2⟩ : ∃ m2, L2.length = m2 := ⟨_, rfl⟩
          rw [hL2, ha2] at HLy
          rw [hD2] at hup hlok
          rw [ha2] at hnx
          have hm81 : m2 ≤ 81 := by rw [← hm2]; exact hlok.len81
          have HOk2 := Lib.hid hlok
          have HUp2 := Lib.hid (hup.symm.trans HUe2.out)
          have HLm2 := Lib.hid hm2
          have HNx := Lib.hid hnx
          rw [hst] at HSt
          rw [hov] at HOv
          clear hst hov hup hnx hlok hL2 ha2 hD2 hm2 HGo
          go_wp2_with fail
          refine ((HSt.out _ (by repeat (first | with_reducible exact HR.out | with_reducible apply Rd.drewN | with_reducible apply Rd.drew | with_reducible apply Rd.alloc)))).mono ?_
          rintro e w3 ⟨rfl, b⟩
          have Sw3 := Lib.hid b.size
          have HB := Lib.hid (chain0 (w := w) (by repeat (first | with_reducible exact Below.refl _ _ | with_reducible exact HB.out | with_reducible apply Below.drew | with_reducible apply bdN | with_reducible refine Below.alloc ?_ (by first | exact Nat.le_refl _ | with_reducible exact HB.out.size | omega | (simp; done) | (simp; omega) | (have := HB.out.size; simp at *; omega)) _ | with_reducible refine Below.setCell ?_ (by first | exact Nat.le_refl _ | with_reducible exact HB.out.size | omega | (simp; done) | (simp; omega) | (have := HB.out.size; simp at *; omega)) _)) b)
          have HZr := Lib.hid (SzA.below (by repeat (first | with_reducible exact HZr.out | with_reducible apply SzA.drewN | with_reducible apply SzA.drew | with_reducible apply SzA.alloc)) b)
          have HG := Lib.hid (OwnG.below (by repeat (first | with_reducible exact HG.out | with_reducible apply OwnG.drewN | with_reducible apply OwnG.drew | with_reducible apply OwnG.alloc)) b)
          have HR := Lib.hid (Rd.below (by repeat (first | with_reducible exact HR.out | with_reducible apply Rd.drewN | with_reducible apply Rd.drew | with_reducible apply Rd.alloc)) b)
          have K6 : Hid (GBox _ (g6) (⟨33, s, a, .slice p2 m c2, .slice (some ⟨gs, 0, none⟩) nw cs1, .slice (some ⟨gw, 0, none⟩) nw cw1⟩)) := Lib.hid (GBox.below (by repeat (first | with_reducible exact K6.out | with_reducible apply GBox.drewN | with_reducible apply GBox.drew | (with_reducible refine GBox.newAt ?_ ?_ <;> first | (simp; done) | rfl) | with_reducible apply GBox.alloc)) b)
          have K3 : Hid (CBox _ (w.heap.size + 1) (⟨61, cl⟩)) := Lib.hid (CBox.below (by repeat (first | with_reducible exact K3.out | with_reducible apply CBox.drewN | with_reducible apply CBox.drew | (with_reducible refine CBox.newAt ?_ ?_ <;> first | (simp; done) | rfl) | with_reducible apply CBox.alloc)) b)
          have K4 : Hid (GBox _ (w.heap.size + 1 + 1) (⟨33, 0, 0, .slice none 0 0, .slice none 0 0, .slice none 0 0⟩)) := Lib.hid (GBox.below (by repeat (first | with_reducible exact K4.out | with_reducible apply GBox.drewN | with_reducible apply GBox.drew | (with_reducible refine GBox.newAt ?_ ?_ <;> first | (simp; done) | rfl) | with_reducible apply GBox.alloc)) b)
          try clear k6a k6b k6c k6d k6e k6z
          have k6z := K6.out.lt
          obtain ⟨k6a, k6b, k6c, k6d, k6e⟩ := K6.out.cell
          try clear k6f
          have k6f := K6.out.frozen
          try clear k3a k3b k3c k3d k3z
          have k3z := K3.out.lt
          obtain ⟨k3a, k3b, k3c, k3d⟩ := K3.out.cell
          try clear k4a k4b k4c k4d k4e k4z
          have k4z := K4.out.lt
          obtain ⟨k4a, k4b, k4c, k4d, k4e⟩ := K4.out.cell
          clear b
          go_wp2_with fail
          refine ((HOv.out _ (by repeat (first | with_reducible exact HR.out | with_reducible apply Rd.drewN | with_reducible apply Rd.drew | with_reducible apply Rd.alloc)))).mono ?_
          rintro e w4 ⟨rfl, b⟩
          have Sw4 := Lib.hid b.size
          have HB := Lib.hid (chain0 (w := w) (by repeat (first | with_reducible exact Below.refl _ _ | with_reducible exact HB.out | with_reducible apply Below.drew | with_reducible apply bdN | with_reducible refine Below.alloc ?_ (by first | exact Nat.le_refl _ | with_reducible exact HB.out.size | omega | (simp; done) | (simp; omega) | (have := HB.out.size; simp at *; omega)) _ | with_reducible refine Below.setCell ?_ (by first | exact Nat.le_refl _ | with_reducible exact HB.out.size | omega | (simp; done) | (simp; omega) | (have := HB.out.size; simp at *; omega)) _)) b)
          have HZr := Lib.hid (SzA.below (by repeat (first | with_reducible exact HZr.out | with_reducible apply SzA.drewN | with_reducible apply SzA.drew | with_reducible apply SzA.alloc)) b)
          have HG := Lib.hid (OwnG.below (by repeat (first | with_reducible exact HG.out | with_reducible apply OwnG.drewN | with_reducible apply OwnG.drew | with_reducible apply OwnG.alloc)) b)
          have HR := Lib.hid (Rd.below (by repeat (first | with_reducible exact HR.out | with_reducible apply Rd.drewN | with_reducible apply Rd.drew | with_reducible apply Rd.alloc)) b)
          have K6 : Hid (GBox _ (g6) (⟨33, s, a, .slice p2 m c2, .slice (some ⟨gs, 0, none⟩) nw cs1, .slice (some ⟨gw, 0, none⟩) nw cw1⟩)) := Lib.hid (GBox.below (by repeat (first | with_reducible exact K6.out | with_reducible apply GBox.drewN | with_reducible apply GBox.drew | (with_reducible refine GBox.newAt ?_ ?_ <;> first | (simp; done) | rfl) | with_reducible apply GBox.alloc)) b)
          have K3 : Hid (CBox _ (w.heap.size + 1) (⟨61, cl⟩)) := Lib.hid (CBox.below (by repeat (first | with_reducible exact K3.out | with_reducible apply CBox.drewN | with_reducible apply CBox.drew | (with_reducible refine CBox.newAt ?_ ?_ <;> first | (simp; done) | rfl) | with_reducible apply CBox.alloc)) b)
          have K4 : Hid (GBox _ (w.heap.size + 1 + 1) (⟨33, 0, 0, .slice none 0 0, .slice none 0 0, .slice none 0 0⟩)) := Lib.hid (GBox.below (by repeat (first | with_reducible exact K4.out | with_reducible apply GBox.drewN | with_reducible apply GBox.drew | (with_reducible refine GBox.newAt ?_ ?_ <;> first | (simp; done) | rfl) | with_reducible apply GBox.alloc)) b)
          try clear k6a k6b k6c k6d k6e k6z
          have k6z := K6.out.lt
          obtain ⟨k6a, k6b, k6c, k6d, k6e⟩ := K6.out.cell
          try clear k6f
          have k6f := K6.out.frozen
          try clear k3a k3b k3c k3d k3z
          have k3z := K3.out.lt
          obtain ⟨k3a, k3b, k3c, k3d⟩ := K3.out.cell
          try clear k4a k4b k4c k4d k4e k4z
          have k4z := K4.out.lt
          obtain ⟨k4a, k4b, k4c, k4d, k4e⟩ := K4.out.cell
          clear b
          go_wp2_with fail
          refine (HLy.out _ (by repeat (first | with_reducible exact HR.out | with_reducible apply Rd.drewN | with_reducible apply Rd.drew | with_reducible apply Rd.alloc))).mono ?_
          rintro e w5 ⟨u, rfl, hu, b⟩
          obtain ⟨p3, c3, rfl, -⟩ := hu.form
          rw [HLm2.out] at hu ⊢
          have HGn := Lib.hid (OwnG.newL HG.out b hu (by have := HG.out.o2.span gs rfl; have := HG.out.c2 gs rfl; omega) HZr.out.h)
          have Sw5 := Lib.hid b.size
          have HB := Lib.hid (chain0 (w := w) (by repeat (first | with_reducible exact Below.refl _ _ | with_reducible exact HB.out | with_reducible apply Below.drew | with_reducible apply bdN | with_reducible refine Below.alloc ?_ (by first | exact Nat.le_refl _ | with_reducible exact HB.out.size | omega | (simp; done) | (simp; omega) | (have := HB.out.size; simp at *; omega)) _ | with_reducible refine Below.setCell ?_ (by first | exact Nat.le_refl _ | with_reducible exact HB.out.size | omega | (simp; done) | (simp; omega) | (have := HB.out.size; simp at *; omega)) _)) b)
          have HZr := Lib.hid (SzA.below (by repeat (first | with_reducible exact HZr.out | with_reducible apply SzA.drewN | with_reducible apply SzA.drew | with_reducible apply SzA.alloc)) b)
          have HG := Lib.hid (OwnG.below (by repeat (first | with_reducible exact HG.out | with_reducible apply OwnG.drewN | with_reducible apply OwnG.drew | with_reducible apply OwnG.alloc)) b)
          have HR := Lib.hid (Rd.below (by repeat (first | with_reducible exact HR.out | with_reducible apply Rd.drewN | with_reducible apply Rd.drew | with_reducible apply Rd.alloc)) b)
          have K6 : Hid (GBox _ (g6) (⟨33, s, a, .slice p2 m c2, .slice (some ⟨gs, 0, none⟩) nw cs1, .slice (some ⟨gw, 0, none⟩) nw cw1⟩)) := Lib.hid (GBox.below (by repeat (first | with_reducible exact K6.out | with_reducible apply GBox.drewN | with_reducible apply GBox.drew | (with_reducible refine GBox.newAt ?_ ?_ <;> first | (simp; done) | rfl) | with_reducible apply GBox.alloc)) b)
          have K3 : Hid (CBox _ (w.heap.size + 1) (⟨61, cl⟩)) := Lib.hid (CBox.below (by repeat (first | with_reducible exact K3.out | with_reducible apply CBox.drewN | with_reducible apply CBox.drew | (with_reducible refine CBox.newAt ?_ ?_ <;> first | (simp; done) | rfl) | with_reducible apply CBox.alloc)) b)
          have K4 : Hid (GBox _ (w.heap.size + 1 + 1) (⟨33, 0, 0, .slice none 0 0, .slice none 0 0, .slice none 0 0⟩)) := Lib.hid (GBox.below (by repeat (first | with_reducible exact K4.out | with_reducible apply GBox.drewN | with_reducible apply GBox.drew | (with_reducible refine GBox.newAt ?_ ?_ <;> first | (simp; done) | rfl) | with_reducible apply GBox.alloc)) b)
          try clear k6a k6b k6c k6d k6e k6z
          have k6z := K6.out.lt
          obtain ⟨k6a, k6b, k6c, k6d, k6e⟩ := K6.out.cell
          try clear k6f
          have k6f := K6.out.frozen
          try clear k3a k3b k3c k3d k3z
          have k3z := K3.out.lt
          obtain ⟨k3a, k3b, k3c, k3d⟩ := K3.out.cell
          try clear k4a k4b k4c k4d k4e k4z
          have k4z := K4.out.lt
          obtain ⟨k4a, k4b, k4c, k4d, k4e⟩ := K4.out.cell
          clear b
          clear hu HG
          have hds := deal_sets K6.out s a2 (.slice p3 m2 c3)
          have HG5 := Lib.hid ((HGn.out.off hds.2 (offG HGn.out K6.out rfl)).top hds.2.size)
          have K65 := Lib.hid hds.1
          have HB5 := Lib.hid (game.Below.by_ HB.out hds.2 HB.out.size (by have := HG6.out; omega))
          have K35 := Lib.hid (K3.out.grown hds.2 (by have := HG6.out; omega))
          have K45 := Lib.hid (K4.out.grown hds.2 (by have := HG6.out; omega))
          clear hds
          go_wp2_with fail
          go_roundg (81 - a2)
          case measure => have := HNx.out; omega
          case rel => exact ⟨a2, m2, L2, p3, c3, hm81, (by have := HNx.out; omega), Nat.le_refl _, HLm2.out, HUp2, HOk2, K65, HG5, HB5, K35, K45⟩
        · have HE := Lib.hid (HUe2.out.symm.trans (up_stop (fun h => over_no hov h.2)))
          rw [hst] at HSt
          rw [hov] at HOv
          clear hst hov
          go_wp2_with fail
          refine ((HSt.out _ (by repeat (first | with_reducible exact HR.out | with_reducible apply Rd.drewN | with_reducible apply Rd.drew | with_reducible apply Rd.alloc)))).mono ?_
          rintro e w3 ⟨rfl, b⟩
          have Sw3 := Lib.hid b.size
          have HB := Lib.hid (chain0 (w := w) (by repeat (first | with_reducible exact Below.refl _ _ | with_reducible exact HB.out | with_reducible apply Below.drew | with_reducible apply bdN | with_reducible refine Below.alloc ?_ (by first | exact Nat.le_refl _ | with_reducible exact HB.out.size | omega | (simp; done) | (simp; omega) | (have := HB.out.size; simp at *; omega)) _ | with_reducible refine Below.setCell ?_ (by first | exact Nat.le_refl _ | with_reducible exact HB.out.size | omega | (simp; done) | (simp; omega) | (have := HB.out.size; simp at *; omega)) _)) b)
          have HZr := Lib.hid (SzA.below (by repeat (first | with_reducible exact HZr.out | with_reducible apply SzA.drewN | with_reducible apply SzA.drew | with_reducible apply SzA.alloc)) b)
          have HG := Lib.hid (OwnG.below (by repeat (first | with_reducible exact HG.out | with_reducible apply OwnG.drewN | with_reducible apply OwnG.drew | with_reducible apply OwnG.alloc)) b)
          have HR := Lib.hid (Rd.below (by repeat (first | with_reducible exact HR.out | with_reducible apply Rd.drewN | with_reducible apply Rd.drew | with_reducible apply Rd.alloc)) b)
          have K6 : Hid (GBox _ (g6) (⟨33, s, a, .slice p2 m c2, .slice (some ⟨gs, 0, none⟩) nw cs1, .slice (some ⟨gw, 0, none⟩) nw cw1⟩)) := Lib.hid (GBox.below (by repeat (first | with_reducible exact K6.out | with_reducible apply GBox.drewN | with_reducible apply GBox.drew | (with_reducible refine GBox.newAt ?_ ?_ <;> first | (simp; done) | rfl) | with_reducible apply GBox.alloc)) b)
          have K3 : Hid (CBox _ (w.heap.size + 1) (⟨61, cl⟩)) := Lib.hid (CBox.below (by repeat (first | with_reducible exact K3.out | with_reducible apply CBox.drewN | with_reducible apply CBox.drew | (with_reducible refine CBox.newAt ?_ ?_ <;> first | (simp; done) | rfl) | with_reducible apply CBox.alloc)) b)
          have K4 : Hid (GBox _ (w.heap.size + 1 + 1) (⟨33, 0, 0, .slice none 0 0, .slice none 0 0, .slice none 0 0⟩)) := Lib.hid (GBox.below (by repeat (first | with_reducible exact K4.out | with_reducible apply GBox.drewN | with_reducible apply GBox.drew | (with_reducible refine GBox.newAt ?_ ?_ <;> first | (simp; done) | rfl) | with_reducible apply GBox.alloc)) b)
          try clear k6a k6b k6c k6d k6e k6z
          have k6z := K6.out.lt
          obtain ⟨k6a, k6b, k6c, k6d, k6e⟩ := K6.out.cell
          try clear k6f
          have k6f := K6.out.frozen
          try clear k3a k3b k3c k3d k3z
          have k3z := K3.out.lt
          obtain ⟨k3a, k3b, k3c, k3d⟩ := K3.out.cell
          try clear k4a k4b k4c k4d k4e k4z
          have k4z := K4.out.lt
          obtain ⟨k4a, k4b, k4c, k4d, k4e⟩ := K4.out.cell
          clear b
          go_wp2_with fail
          refine ((HOv.out _ (by repeat (first | with_reducible exact HR.out | with_reducible apply Rd.drewN | with_reducible apply Rd.drew | with_reducible apply Rd.alloc)))).mono ?_
          rintro e w4 ⟨rfl, b⟩
          have Sw4 := Lib.hid b.size
          have HB := Lib.hid (chain0 (w := w) (by repeat (first | with_reducible exact Below.refl _ _ | with_reducible exact HB.out | with_reducible apply Below.drew | with_reducible apply bdN | with_reducible refine Below.alloc ?_ (by first | exact Nat.le_refl _ | with_reducible exact HB.out.size | omega | (simp; done) | (simp; omega) | (have := HB.out.size; simp at *; omega)) _ | with_reducible refine Below.setCell ?_ (by first | exact Nat.le_refl _ | with_reducible exact HB.out.size | omega | (simp; done) | (simp; omega) | (have := HB.out.size; simp at *; omega)) _)) b)
          have HZr := Lib.hid (SzA.below (by repeat (first | with_reducible exact HZr.out | with_reducible apply SzA.drewN | with_reducible apply SzA.drew | with_reducible apply SzA.alloc)) b)
          have HG := Lib.hid (OwnG.below (by repeat (first | with_reducible exact HG.out | with_reducible apply OwnG.drewN | with_reducible apply OwnG.drew | with_reducible apply OwnG.alloc)) b)
          have HR := Lib.hid (Rd.below (by repeat (first | with_reducible exact HR.out | with_reducible apply Rd.drewN | with_reducible apply Rd.drew | with_reducible apply Rd.alloc)) b)
          have K6 : Hid (GBox _ (g6) (⟨33, s, a, .slice p2 m c2, .slice (some ⟨gs, 0, none⟩) nw cs1, .slice (some ⟨gw, 0, none⟩) nw cw1⟩)) := Lib.hid (GBox.below (by repeat (first | with_reducible exact K6.out | with_reducible apply GBox.drewN | with_reducible apply GBox.drew | (with_reducible refine GBox.newAt ?_ ?_ <;> first | (simp; done) | rfl) | with_reducible apply GBox.alloc)) b)
          have K3 : Hid (CBox _ (w.heap.size + 1) (⟨61, cl⟩)) := Lib.hid (CBox.below (by repeat (first | with_reducible exact K3.out | with_reducible apply CBox.drewN | with_reducible apply CBox.drew | (with_reducible refine CBox.newAt ?_ ?_ <;> first | (simp; done) | rfl) | with_reducible apply CBox.alloc)) b)
          have K4 : Hid (GBox _ (w.heap.size + 1 + 1) (⟨33, 0, 0, .slice none 0 0, .slice none 0 0, .slice none 0 0⟩)) := Lib.hid (GBox.below (by repeat (first | with_reducible exact K4.out | with_reducible apply GBox.drewN | with_reducible apply GBox.drew | (with_reducible refine GBox.newAt ?_ ?_ <;> first | (simp; done) | rfl) | with_reducible apply GBox.alloc)) b)
          try clear k6a k6b k6c k6d k6e k6z
          have k6z := K6.out.lt
          obtain ⟨k6a, k6b, k6c, k6d, k6e⟩ := K6.out.cell
          try clear k6f
          have k6f := K6.out.frozen
          try clear k3a k3b k3c k3d k3z
          have k3z := K3.out.lt
          obtain ⟨k3a, k3b, k3c, k3d⟩ := K3.out.cell
          try clear k4a k4b k4c k4d k4e k4z
          have k4z := K4.out.lt
          obtain ⟨k4a, k4b, k4c, k4d, k4e⟩ := K4.out.cell
          clear b
          go_wp2_with fail
          go_meet
          case rel => exact ⟨a, m, L, p2, c2, hm, ha, HLm.out, HE, K6, HG.out.top HZr.out.h, HB, K3, K4⟩
  case rest =>
    clear K6 HB2 K32 K42 HG3 HC6
    obtain ⟨a, m, L, p2, c2, hm, ha, hLm, HUe2, K6, HG, HB, K3, K4⟩ := hcut
    obtain ⟨k6a, k6b, k6c, k6d, k6e⟩ := K6.out.cell
    have k6z := K6.out.lt
    have k6f := K6.out.frozen
    obtain ⟨k3a, k3b, k3c, k3d⟩ := K3.out.cell
    have k3z := K3.out.lt
    obtain ⟨k4a, k4b, k4c, k4d, k4e⟩ := K4.out.cell
    have k4z := K4.out.lt
    have k4f := K4.out.frozen
    have HLm := Lib.hid hLm
    have HOk : Hid ((Dl.mk s a L).okP) := Lib.hid (HUe2.out ▸ HU.out)
    have HR := Lib.hid (Own.rd HG.out.o1)
    have HZr : Hid (SzA wc wc.heap.size) := Lib.hid ⟨Nat.le_refl _⟩
    have hU2 := HUe2.out
    rw [hU2] at HK HMD
    have HKk := Lib.hid (fun w h => kind_of s a L cl p2 (some ⟨gs, 0, none⟩) (some ⟨gw, 0, none⟩) m c2 nw cs1 nw cw1 w hLm hm (by omega) h HOk.out.cards HOk.out.2.2.2 hc)
    have HTk := Lib.hid (fun w h => impl_take s a L (plc cl) p2 m c2 w HOk.out.1 ha hLm hm h)
    have HKd : Hid (kd = kind L nw cl) := Lib.hid HK.out
    rw [← HKd.out] at HKk
    have hk3 := kind_bd L nw cl
    rw [← HKd.out] at hk3
    clear hU2 HUe2 HU HUs HK hLm HR0 HCp HUe
    rcases hk3 with rfl | rfl | rfl
    · have hq := kind_p (l := L) (n := nw) (c := cl) (by rw [← HKd.out]; decide)
      obtain ⟨q, hqe⟩ : ∃ q : Nat, cl.a = (q : Int) := ⟨cl.a.toNat, by omega⟩
      have hqn : q < nw := by omega
      have hlok := take_ok' (t := plc cl) HOk.out
      obtain ⟨L2, hL2⟩ : ∃ L2, (takeD ⟨s, a, L⟩ (plc cl)).l = L2 := ⟨_, rfl⟩
      obtain ⟨a2, ha2⟩ : ∃ a2 : Nat, (takeD ⟨s, a, L⟩ (plc cl)).nx = (a2 : Int) := ⟨(takeD ⟨s, a, L⟩ (plc cl)).nx.toNat, by have := hlok.2.1.1; omega⟩
      have hD2 : takeD ⟨s, a, L⟩ (plc cl) = ⟨s, a2, L2⟩ := by rw [← ha2, ← hL2]; rfl
      obtain ⟨m2, hm2⟩ : ∃ m2, L2.length = m2 := ⟨_, rfl⟩
      rw [hL2, ha2] at HTk
      have HLm2 := Lib.hid hm2
      have HGx : Hid (G = ⟨s, a2, L2, bump sc q, wt⟩) := Lib.hid (by have h1 := HMD.out; have h2 := HMS.out; have h3 := HMW.out; rw [if_neg (by decide)] at h3; rw [if_pos rfl, hqe] at h2; rw [if_pos rfl, hD2] at h1; rw [HMk.out, h1, h2, h3]; rfl)
      have HQe := Lib.hid hqe
      clear HMD HMS HMW HMk HKd hq hqe hD2 hm2 hL2 ha2 hlok
      go_wp2_with fail
      refine ((HKk.out _ (by repeat (first | with_reducible exact HR.out | with_reducible apply Rd.drewN | with_reducible apply Rd.drew | with_reducible apply Rd.alloc)))).mono ?_
      rintro e w3 ⟨rfl, b⟩
      have Sw3 := Lib.hid b.size
      have HB := Lib.hid (chain0 (w := w) (by repeat (first | with_reducible exact Below.refl _ _ | with_reducible exact HB.out | with_reducible apply Below.drew | with_reducible apply bdN | with_reducible refine Below.alloc ?_ (by first | exact Nat.le_refl _ | with_reducible exact HB.out.size | omega | (simp; done) | (simp; omega) | (have := HB.out.size; simp at *; omega)) _ | with_reducible refine Below.setCell ?_ (by first | exact Nat.le_refl _ | with_reducible exact HB.out.size | omega | (simp; done) | (simp; omega) | (have := HB.out.size; simp at *; omega)) _)) b)
      have HZr := Lib.hid (SzA.below (by repeat (first | with_reducible exact HZr.out | with_reducible apply SzA.drewN | with_reducible apply SzA.drew | with_reducible apply SzA.alloc)) b)
      have HG := Lib.hid (OwnG.below (by repeat (first | with_reducible exact HG.out | with_reducible apply OwnG.drewN | with_reducible apply OwnG.drew | with_reducible apply OwnG.alloc)) b)
      have HR := Lib.hid (Rd.below (by repeat (first | with_reducible exact HR.out | with_reducible apply Rd.drewN | with_reducible apply Rd.drew | with_reducible apply Rd.alloc)) b)
      have K6 : Hid (GBox _ (g6) (⟨33, s, a, .slice p2 m c2, .slice (some ⟨gs, 0, none⟩) nw cs1, .slice (some ⟨gw, 0, none⟩) nw cw1⟩)) := Lib.hid (GBox.below (by repeat (first | with_reducible exact K6.out | with_reducible apply GBox.drewN | with_reducible apply GBox.drew | (with_reducible refine GBox.newAt ?_ ?_ <;> first | (simp; done) | rfl) | with_reducible apply GBox.alloc)) b)
      have K3 : Hid (CBox _ (w.heap.size + 1) (⟨61, cl⟩)) := Lib.hid (CBox.below (by repeat (first | with_reducible exact K3.out | with_reducible apply CBox.drewN | with_reducible apply CBox.drew | (with_reducible refine CBox.newAt ?_ ?_ <;> first | (simp; done) | rfl) | with_reducible apply CBox.alloc)) b)
      have K4 : Hid (GBox _ (w.heap.size + 1 + 1) (⟨33, 0, 0, .slice none 0 0, .slice none 0 0, .slice none 0 0⟩)) := Lib.hid (GBox.below (by repeat (first | with_reducible exact K4.out | with_reducible apply GBox.drewN | with_reducible apply GBox.drew | (with_reducible refine GBox.newAt ?_ ?_ <;> first | (simp; done) | rfl) | with_reducible apply GBox.alloc)) b)
      try clear k6a k6b k6c k6d k6e k6z
      have k6z := K6.out.lt
      obtain ⟨k6a, k6b, k6c, k6d, k6e⟩ := K6.out.cell
      try clear k6f
      have k6f := K6.out.frozen
      try clear k3a k3b k3c k3d k3z
      have k3z := K3.out.lt
      obtain ⟨k3a, k3b, k3c, k3d⟩ := K3.out.cell
      try clear k4a k4b k4c k4d k4e k4z
      have k4z := K4.out.lt
      obtain ⟨k4a, k4b, k4c, k4d, k4e⟩ := K4.out.cell
      try clear k4f
      have k4f := K4.out.frozen
      clear b
      go_wp2_with fail
      refine (HTk.out _ (by repeat (first | with_reducible exact HR.out | with_reducible apply Rd.drewN | with_reducible apply Rd.drew | with_reducible apply Rd.alloc))).mono ?_
      rintro e w5 ⟨u, rfl, hu, b⟩
      obtain ⟨p3, c3, rfl, -⟩ := hu.form
      rw [HLm2.out] at hu ⊢
      have HGn := Lib.hid (OwnG.newL HG.out b hu (by have := HG.out.o2.span gs rfl; have := HG.out.c2 gs rfl; omega) HZr.out.h)
      have Sw5 := Lib.hid b.size
      have HB := Lib.hid (chain0 (w := w) (by repeat (first | with_reducible exact Below.refl _ _ | with_reducible exact HB.out | with_reducible apply Below.drew | with_reducible apply bdN | with_reducible refine Below.alloc ?_ (by first | exact Nat.le_refl _ | with_reducible exact HB.out.size | omega | (simp; done) | (simp; omega) | (have := HB.out.size; simp at *; omega)) _ | with_reducible refine Below.setCell ?_ (by first | exact Nat.le_refl _ | with_reducible exact HB.out.size | omega | (simp; done) | (simp; omega) | (have := HB.out.size; simp at *; omega)) _)) b)
      have HZr := Lib.hid (SzA.below (by repeat (first | with_reducible exact HZr.out | with_reducible apply SzA.drewN | with_reducible apply SzA.drew | with_reducible apply SzA.alloc)) b)
      have HG := Lib.hid (OwnG.below (by repeat (first | with_reducible exact HG.out | with_reducible apply OwnG.drewN | with_reducible apply OwnG.drew | with_reducible apply OwnG.alloc)) b)
      have HR := Lib.hid (Rd.below (by repeat (first | with_reducible exact HR.out | with_reducible apply Rd.drewN | with_reducible apply Rd.drew | with_reducible apply Rd.alloc)) b)
      have K6 : Hid (GBox _ (g6) (⟨33, s, a, .slice p2 m c2, .slice (some ⟨gs, 0, none⟩) nw cs1, .slice (some ⟨gw, 0, none⟩) nw cw1⟩)) := Lib.hid (GBox.below (by repeat (first | with_reducible exact K6.out | with_reducible apply GBox.drewN | with_reducible apply GBox.drew | (with_reducible refine GBox.newAt ?_ ?_ <;> first | (simp; done) | rfl) | with_reducible apply GBox.alloc)) b)
      have K3 : Hid (CBox _ (w.heap.size + 1) (⟨61, cl⟩)) := Lib.hid (CBox.below (by repeat (first | with_reducible exact K3.out | with_reducible apply CBox.drewN | with_reducible apply CBox.drew | (with_reducible refine CBox.newAt ?_ ?_ <;> first | (simp; done) | rfl) | with_reducible apply CBox.alloc)) b)
      have K4 : Hid (GBox _ (w.heap.size + 1 + 1) (⟨33, 0, 0, .slice none 0 0, .slice none 0 0, .slice none 0 0⟩)) := Lib.hid (GBox.below (by repeat (first | with_reducible exact K4.out | with_reducible apply GBox.drewN | with_reducible apply GBox.drew | (with_reducible refine GBox.newAt ?_ ?_ <;> first | (simp; done) | rfl) | with_reducible apply GBox.alloc)) b)
      try clear k6a k6b k6c k6d k6e k6z
      have k6z := K6.out.lt
      obtain ⟨k6a, k6b, k6c, k6d, k6e⟩ := K6.out.cell
      try clear k6f
      have k6f := K6.out.frozen
      try clear k3a k3b k3c k3d k3z
      have k3z := K3.out.lt
      obtain ⟨k3a, k3b, k3c, k3d⟩ := K3.out.cell
      try clear k4a k4b k4c k4d k4e k4z
      have k4z := K4.out.lt
      obtain ⟨k4a, k4b, k4c, k4d, k4e⟩ := K4.out.cell
      try clear k4f
      have k4f := K4.out.frozen
      clear b
      clear hu HG
      have hds := deal_sets K6.out s a2 (.slice p3 m2 c3)
      have HG5 := Lib.hid ((HGn.out.off hds.2 (offG HGn.out K6.out rfl)).top hds.2.size)
      have K65 := Lib.hid hds.1
      have HB5 := Lib.hid (game.Below.by_ HB.out hds.2 HB.out.size (by have := HG6.out; omega))
      have K35 := Lib.hid (K3.out.grown hds.2 (by have := HG6.out; omega))
      have K45 := Lib.hid (K4.out.grown hds.2 (by have := HG6.out; omega))
      clear hds HZr HGn
      go_upto_region 8 with fail
      generalize (((w5.setCell ⟨g6, 0, none⟩ (.int .i64 s)).setCell ⟨g6, 1, none⟩ (.int .i64 (a2 : Int))).setCell ⟨g6, 2, none⟩ (.slice p3 m2 c3)) = W3 at K65 HG5 HB5 K35 K45 ⊢
      clear K6 K3 K4 HB k6a k6b k6c k6d k6e k6z k4a k4b k4c k4d k4e k4z k4f k6f k3a k3b k3c k3d k3z HR
      have K6 := Lib.hid K65.out
      have K3 := Lib.hid K35.out
      have K4 := Lib.hid K45.out
      have HG := Lib.hid HG5.out
      have HB := Lib.hid HB5.out
      have HZr : Hid (SzA W3 W3.heap.size) := Lib.hid ⟨Nat.le_refl _⟩
      clear K65 K35 K45 HG5 HB5
      obtain ⟨x, hx, d0, df, _, dlt⟩ := OwnI.slot HS.out HG.out.o2 q hqn
      have hxb := tly_at HO.out.ts hx
      have HX := Lib.hid hx
      clear hx
      refine region_seq [0, 1, 2, 3, 4, 5, 6, 7, 8] [9, 10, 11, 12] (by kernel_rfl) (by kernel_rfl) rfl (by kernel_rfl) (fun w' => w'.cell? ⟨g6, 3, none⟩ = some (.slice (some ⟨gs, 0, none⟩) nw cs1) ∧ w'.cell? ⟨w.heap.size + 1, 0, none⟩ = some (.int .i64 (q : Int))) (fun w' h => ⟨(K6.out.below h).cell.2.2.2.1, by have h1 := (K3.out.below h).cell.1; rwa [show (Cv.mk 61 cl).c.a = (q : Int) from HQe.out] at h1⟩) ?_
      refine j_pure 35 (v := .pointer (some ⟨g6, 3, none⟩)) rfl rfl rfl (fun w => by kernel_rfl) ?_
      refine j_cell 36 (v := .slice (some ⟨gs, 0, none⟩) nw cs1) rfl rfl rfl rfl (by kernel_rfl) (fun w' h => load_slI h.1) ?_
      refine j_pure 37 (v := .pointer (some ⟨w.heap.size + 1, 0, none⟩)) rfl rfl rfl (fun w => by kernel_rfl) ?_
      refine j_cell 38 (v := .int .i64 q) rfl rfl rfl rfl (by kernel_rfl) (fun w' h => load_int h.2) ?_
      refine j_pure 39 (v := .pointer (some ⟨g6, 3, none⟩)) rfl rfl rfl (fun w => by kernel_rfl) ?_
      refine j_cell 40 (v := .slice (some ⟨gs, 0, none⟩) nw cs1) rfl rfl rfl rfl (by kernel_rfl) (fun w' h => load_slI h.1) ?_
      refine j_pure 41 (v := .pointer (some ⟨w.heap.size + 1, 0, none⟩)) rfl rfl rfl (fun w => by kernel_rfl) ?_
      refine j_cell 42 (v := .int .i64 q) rfl rfl rfl rfl (by kernel_rfl) (fun w' h => load_int h.2) ?_
      refine j_pure 43 (v := .pointer (some ⟨gs, q, none⟩)) rfl rfl rfl (exec_index0 (n := nw) (cp := cs1) hqn rfl (by kernel_rfl) (by kernel_rfl)) ?_
      intro wa hI
      have d1 := (Below.cell hI (p := ⟨gs, q, none⟩) dlt).trans d0
      have hS : ∀ w', BI W3 w' → w'.cell? ⟨g6, 3, none⟩ = some (.slice (some ⟨gs, 0, none⟩) nw cs1) ∧ w'.cell? ⟨w.heap.size + 1, 0, none⟩ = some (.int .i64 (q : Int)) := (fun w' h => ⟨(K6.out.below h).cell.2.2.2.1, by have h1 := (K3.out.below h).cell.1; rwa [show (Cv.mk 61 cl).c.a = (q : Int) from HQe.out] at h1⟩)
      refine u_val (v := .int .i64 x) rfl rfl (exec_loadI rfl (by kernel_rfl) d1) (hS _ hI) ?_
      refine u_call (f := 83) (args := #[.int .i64 x]) rfl rfl (by kernel_rfl) ((one_more x wa hxb).mono ?_)
      rintro e wb ⟨rfl, b⟩
      have hI2 := BI.next hI b
      refine ⟨_, rfl, hS _ hI2, ?_⟩
      refine u_val (v := .pointer (some ⟨gs, q, none⟩)) rfl rfl (exec_index0 (n := nw) (cp := cs1) hqn rfl (by kernel_rfl) (by kernel_rfl) wb) (hS _ hI2) ?_
      have d2 := (Below.cell hI2 (p := ⟨gs, q, none⟩) dlt).trans d0
      have ho6 := offG HG.out K6.out rfl
      have ho4 := offG HG.out K4.out rfl
      have gbc := gb_cell wb gs q (.int .i64 (more x))
      have K6a := GBox.grown (K6.out.below hI2) gbc (fun e => ho6.2.1 gs rfl e.symm)
      have K4a := GBox.grown (K4.out.below hI2) gbc (fun e => ho4.2.1 gs rfl e.symm)
      have K3a := CBox.grown (K3.out.below hI2) gbc (fun e => (offC HG.out K3.out).2.1 gs rfl e.symm)
      have HGa := bump_sets (HG.out.below hI2) HS.out q x HX.out
      have HBa := game.Below.by_ (HB.out.trans (Below.mono hI2 HB.out.size)) gbc (Nat.le_trans HB.out.size (Below.size hI2)) (by have := (HG.out.o2.span gs rfl).1; omega)
      have HZa := Nat.le_trans HZr.out.h (Nat.le_trans (Below.size hI2) gbc.size)
      refine u_skip rfl rfl (exec_storeI (x := x) rfl (by kernel_rfl) (by kernel_rfl) d2 ((OwnI.slot HS.out (HG.out.below hI2).o2 q hqn).choose_spec.2.2.1 q)) ⟨K6a.cell.2.2.2.1, by have h1 := K3a.cell.1; rwa [show (Cv.mk 61 cl).c.a = (q : Int) from HQe.out] at h1⟩ ?_
      clear K6 K4 HG HB HZr hS K3a hI hI2 b d1 d2 d0 df ho6 ho4 gbc
      simp only [runsU, Act.put, List.setIfInBounds_toArray, List.set_cons_zero, List.set_cons_succ]
      have K6 := Lib.hid K6a
      have K4 := Lib.hid K4a
      have HG := Lib.hid HGa
      have HB := Lib.hid HBa
      have HZr : Hid (SzA _ _) := Lib.hid ⟨HZa⟩
      clear K6a K4a HGa HBa HZa
      generalize (wb.setCell ⟨gs, q, none⟩ (.int .i64 (more x))) = W6 at K6 K4 HG HB HZr ⊢
      obtain ⟨k6a, k6b, k6c, k6d, k6e⟩ := K6.out.cell
      have k6z := K6.out.lt
      obtain ⟨k4a, k4b, k4c, k4d, k4e⟩ := K4.out.cell
      have k4z := K4.out.lt
      have k4f := K4.out.frozen
      go_wp2_with fail
      try simp only [Exit.inBlock, Exit.then]
      refine bodyPost_ret (res_game2 Try.results60 rfl (K4.out.set_ _ _ _ _ _)) rfl ?_
      have HGf := (((((HG.out.far (g := w.heap.size + 1 + 1) (.inl (by omega)) 0 (.int .i64 s)).far (g := w.heap.size + 1 + 1) (.inl (by omega)) 1 (.int .i64 a2)).far (g := w.heap.size + 1 + 1) (.inl (by omega)) 2 (.slice p3 m2 c3)).far (g := w.heap.size + 1 + 1) (.inl (by omega)) 3 (.slice (some ⟨gs, 0, none⟩) nw cs1)).far (g := w.heap.size + 1 + 1) (.inl (by omega)) 4 (.slice (some ⟨gw, 0, none⟩) nw cw1))
      refine ⟨_, _, _, by rw [HGx.out]; rfl, ?_, by repeat (first | with_reducible exact Below.refl _ _ | with_reducible exact HB.out | with_reducible apply Below.drew | with_reducible apply bdN | with_reducible refine Below.alloc ?_ (by first | exact Nat.le_refl _ | with_reducible exact HB.out.size | omega | (simp; done) | (simp; omega) | (have := HB.out.size; simp at *; omega)) _ | with_reducible refine Below.setCell ?_ (by first | exact Nat.le_refl _ | with_reducible exact HB.out.size | omega | (simp; done) | (simp; omega) | (have := HB.out.size; simp at *; omega)) _)⟩
      rw [HGx.out]
      exact (HGf.base (show w.heap.size ≤ w.heap.size + 1 + 1 + 1 by omega)).top (by have := HZr.out.h; simpa [World.setCell] using this)
    · have hq := kind_p (l := L) (n := nw) (c := cl) (by rw [← HKd.out]; decide)
      obtain ⟨q, hqe⟩ : ∃ q : Nat, cl.a = (q : Int) := ⟨cl.a.toNat, by omega⟩
      have hqn : q < nw := by omega
      have HGx : Hid (G = ⟨s, a, L, sc, bump wt q⟩) := Lib.hid (by have h1 := HMD.out; have h2 := HMS.out; have h3 := HMW.out; rw [if_neg (by decide)] at h1 h2; rw [if_pos rfl, hqe] at h3; rw [HMk.out, h1, h2, h3]; rfl)
      have HQe := Lib.hid hqe
      clear HTk HMD HMS HMW HMk HKd hq hqe
      go_wp2_with fail
      refine ((HKk.out _ (by repeat (first | with_reducible exact HR.out | with_reducible apply Rd.drewN | with_reducible apply Rd.drew | with_reducible apply Rd.alloc)))).mono ?_
      rintro e w3 ⟨rfl, b⟩
      have Sw3 := Lib.hid b.size
      have HB := Lib.hid (chain0 (w := w) (by repeat (first | with_reducible exact Below.refl _ _ | with_reducible exact HB.out | with_reducible apply Below.drew | with_reducible apply bdN | with_reducible refine Below.alloc ?_ (by first | exact Nat.le_refl _ | with_reducible exact HB.out.size | omega | (simp; done) | (simp; omega) | (have := HB.out.size; simp at *; omega)) _ | with_reducible refine Below.setCell ?_ (by first | exact Nat.le_refl _ | with_reducible exact HB.out.size | omega | (simp; done) | (simp; omega) | (have := HB.out.size; simp at *; omega)) _)) b)
      have HZr := Lib.hid (SzA.below (by repeat (first | with_reducible exact HZr.out | with_reducible apply SzA.drewN | with_reducible apply SzA.drew | with_reducible apply SzA.alloc)) b)
      have HG := Lib.hid (OwnG.below (by repeat (first | with_reducible exact HG.out | with_reducible apply OwnG.drewN | with_reducible apply OwnG.drew | with_reducible apply OwnG.alloc)) b)
      have HR := Lib.hid (Rd.below (by repeat (first | with_reducible exact HR.out | with_reducible apply Rd.drewN | with_reducible apply Rd.drew | with_reducible apply Rd.alloc)) b)
      have K6 : Hid (GBox _ (g6) (⟨33, s, a, .slice p2 m c2, .slice (some ⟨gs, 0, none⟩) nw cs1, .slice (some ⟨gw, 0, none⟩) nw cw1⟩)) := Lib.hid (GBox.below (by repeat (first | with_reducible exact K6.out | with_reducible apply GBox.drewN | with_reducible apply GBox.drew | (with_reducible refine GBox.newAt ?_ ?_ <;> first | (simp; done) | rfl) | with_reducible apply GBox.alloc)) b)
      have K3 : Hid (CBox _ (w.heap.size + 1) (⟨61, cl⟩)) := Lib.hid (CBox.below (by repeat (first | with_reducible exact K3.out | with_reducible apply CBox.drewN | with_reducible apply CBox.drew | (with_reducible refine CBox.newAt ?_ ?_ <;> first | (simp; done) | rfl) | with_reducible apply CBox.alloc)) b)
      have K4 : Hid (GBox _ (w.heap.size + 1 + 1) (⟨33, 0, 0, .slice none 0 0, .slice none 0 0, .slice none 0 0⟩)) := Lib.hid (GBox.below (by repeat (first | with_reducible exact K4.out | with_reducible apply GBox.drewN | with_reducible apply GBox.drew | (with_reducible refine GBox.newAt ?_ ?_ <;> first | (simp; done) | rfl) | with_reducible apply GBox.alloc)) b)
      try clear k6a k6b k6c k6d k6e k6z
      have k6z := K6.out.lt
      obtain ⟨k6a, k6b, k6c, k6d, k6e⟩ := K6.out.cell
      try clear k6f
      have k6f := K6.out.frozen
      try clear k3a k3b k3c k3d k3z
      have k3z := K3.out.lt
      obtain ⟨k3a, k3b, k3c, k3d⟩ := K3.out.cell
      try clear k4a k4b k4c k4d k4e k4z
      have k4z := K4.out.lt
      obtain ⟨k4a, k4b, k4c, k4d, k4e⟩ := K4.out.cell
      try clear k4f
      have k4f := K4.out.frozen
      clear b
      go_upto_region 10 with fail
      obtain ⟨W3, hW3⟩ : ∃ W3, W3 = w3 := ⟨_, rfl⟩
      rw [← hW3] at K6 K3 K4 HG HB HZr
      rw [← hW3]
      clear hW3 k6a k6b k6c k6d k6e k6z k4a k4b k4c k4d k4e k4z k4f k6f k3a k3b k3c k3d k3z HR
      obtain ⟨x, hx, d0, df, _, dlt⟩ := OwnI.slot HW.out HG.out.o3 q hqn
      have hxb := tly_at HO.out.tw hx
      have HX := Lib.hid hx
      clear hx
      refine region_seq [0, 1, 2, 3, 4, 5, 6, 7, 8] [9, 10, 11, 12] (by kernel_rfl) (by kernel_rfl) rfl (by kernel_rfl) (fun w' => w'.cell? ⟨g6, 4, none⟩ = some (.slice (some ⟨gw, 0, none⟩) nw cw1) ∧ w'.cell? ⟨w.heap.size + 1, 0, none⟩ = some (.int .i64 (q : Int))) (fun w' h => ⟨(K6.out.below h).cell.2.2.2.2, by have h1 := (K3.out.below h).cell.1; rwa [show (Cv.mk 61 cl).c.a = (q : Int) from HQe.out] at h1⟩) ?_
      refine j_pure 49 (v := .pointer (some ⟨g6, 4, none⟩)) rfl rfl rfl (fun w => by kernel_rfl) ?_
      refine j_cell 50 (v := .slice (some ⟨gw, 0, none⟩) nw cw1) rfl rfl rfl rfl (by kernel_rfl) (fun w' h => load_slI h.1) ?_
      refine j_pure 51 (v := .pointer (some ⟨w.heap.size + 1, 0, none⟩)) rfl rfl rfl (fun w => by kernel_rfl) ?_
      refine j_cell 52 (v := .int .i64 q) rfl rfl rfl rfl (by kernel_rfl) (fun w' h => load_int h.2) ?_
      refine j_pure 53 (v := .pointer (some ⟨g6, 4, none⟩)) rfl rfl rfl (fun w => by kernel_rfl) ?_
      refine j_cell 54 (v := .slice (some ⟨gw, 0, none⟩) nw cw1) rfl rfl rfl rfl (by kernel_rfl) (fun w' h => load_slI h.1) ?_
      refine j_pure 55 (v := .pointer (some ⟨w.heap.size + 1, 0, none⟩)) rfl rfl rfl (fun w => by kernel_rfl) ?_
      refine j_cell 56 (v := .int .i64 q) rfl rfl rfl rfl (by kernel_rfl) (fun w' h => load_int h.2) ?_
      refine j_pure 57 (v := .pointer (some ⟨gw, q, none⟩)) rfl rfl rfl (exec_index0 (n := nw) (cp := cw1) hqn rfl (by kernel_rfl) (by kernel_rfl)) ?_
      intro wa hI
      have d1 := (Below.cell hI (p := ⟨gw, q, none⟩) dlt).trans d0
      have hS : ∀ w', BI W3 w' → w'.cell? ⟨g6, 4, none⟩ = some (.slice (some ⟨gw, 0, none⟩) nw cw1) ∧ w'.cell? ⟨w.heap.size + 1, 0, none⟩ = some (.int .i64 (q : Int)) := (fun w' h => ⟨(K6.out.below h).cell.2.2.2.2, by have h1 := (K3.out.below h).cell.1; rwa [show (Cv.mk 61 cl).c.a = (q : Int) from HQe.out] at h1⟩)
      refine u_val (v := .int .i64 x) rfl rfl (exec_loadI rfl (by kernel_rfl) d1) (hS _ hI) ?_
      refine u_call (f := 83) (args := #[.int .i64 x]) rfl rfl (by kernel_rfl) ((one_more x wa hxb).mono ?_)
      rintro e wb ⟨rfl, b⟩
      have hI2 := BI.next hI b
      refine ⟨_, rfl, hS _ hI2, ?_⟩
      refine u_val (v := .pointer (some ⟨gw, q, none⟩)) rfl rfl (exec_index0 (n := nw) (cp := cw1) hqn rfl (by kernel_rfl) (by kernel_rfl) wb) (hS _ hI2) ?_
      have d2 := (Below.cell hI2 (p := ⟨gw, q, none⟩) dlt).trans d0
      have ho6 := offG HG.out K6.out rfl
      have ho4 := offG HG.out K4.out rfl
      have gbc := gb_cell wb gw q (.int .i64 (more x))
      have K6a := GBox.grown (K6.out.below hI2) gbc (fun e => ho6.2.2 gw rfl e.symm)
      have K4a := GBox.grown (K4.out.below hI2) gbc (fun e => ho4.2.2 gw rfl e.symm)
      have K3a := CBox.grown (K3.out.below hI2) gbc (fun e => (offC HG.out K3.out).2.2 gw rfl e.symm)
      have HGa := bump_setsW (HG.out.below hI2) HW.out q x HX.out
      have HBa := game.Below.by_ (HB.out.trans (Below.mono hI2 HB.out.size)) gbc (Nat.le_trans HB.out.size (Below.size hI2)) (by have := (HG.out.o3.span gw rfl).1; omega)
      have HZa := Nat.le_trans HZr.out.h (Nat.le_trans (Below.size hI2) gbc.size)
      refine u_skip rfl rfl (exec_storeI (x := x) rfl (by kernel_rfl) (by kernel_rfl) d2 ((OwnI.slot HW.out (HG.out.below hI2).o3 q hqn).choose_spec.2.2.1 q)) ⟨K6a.cell.2.2.2.2, by have h1 := K3a.cell.1; rwa [show (Cv.mk 61 cl).c.a = (q : Int) from HQe.out] at h1⟩ ?_
      clear K6 K4 HG HB HZr hS K3a hI hI2 b d1 d2 d0 df ho6 ho4 gbc
      simp only [runsU, Act.put, List.setIfInBounds_toArray, List.set_cons_zero, List.set_cons_succ]
      have K6 := Lib.hid K6a
      have K4 := Lib.hid K4a
      have HG := Lib.hid HGa
      have HB := Lib.hid HBa
      have HZr : Hid (SzA _ _) := Lib.hid ⟨HZa⟩
      clear K6a K4a HGa HBa HZa
      generalize (wb.setCell ⟨gw, q, none⟩ (.int .i64 (more x))) = W6 at K6 K4 HG HB HZr ⊢
      obtain ⟨k6a, k6b, k6c, k6d, k6e⟩ := K6.out.cell
      have k6z := K6.out.lt
      obtain ⟨k4a, k4b, k4c, k4d, k4e⟩ := K4.out.cell
      have k4z := K4.out.lt
      have k4f := K4.out.frozen
      go_wp2_with fail
      try simp only [Exit.inBlock, Exit.then]
      refine bodyPost_ret (res_game2 Try.results60 rfl (K4.out.set_ _ _ _ _ _)) rfl ?_
      have HGf := (((((HG.out.far (g := w.heap.size + 1 + 1) (.inl (by omega)) 0 (.int .i64 s)).far (g := w.heap.size + 1 + 1) (.inl (by omega)) 1 (.int .i64 a)).far (g := w.heap.size + 1 + 1) (.inl (by omega)) 2 (.slice p2 m c2)).far (g := w.heap.size + 1 + 1) (.inl (by omega)) 3 (.slice (some ⟨gs, 0, none⟩) nw cs1)).far (g := w.heap.size + 1 + 1) (.inl (by omega)) 4 (.slice (some ⟨gw, 0, none⟩) nw cw1))
      refine ⟨_, _, _, by rw [HGx.out]; rfl, ?_, by repeat (first | with_reducible exact Below.refl _ _ | with_reducible exact HB.out | with_reducible apply Below.drew | with_reducible apply bdN | with_reducible refine Below.alloc ?_ (by first | exact Nat.le_refl _ | with_reducible exact HB.out.size | omega | (simp; done) | (simp; omega) | (have := HB.out.size; simp at *; omega)) _ | with_reducible refine Below.setCell ?_ (by first | exact Nat.le_refl _ | with_reducible exact HB.out.size | omega | (simp; done) | (simp; omega) | (have := HB.out.size; simp at *; omega)) _)⟩
      rw [HGx.out]
      exact (HGf.base (show w.heap.size ≤ w.heap.size + 1 + 1 + 1 by omega)).top (by have := HZr.out.h; simpa [World.setCell] using this)
    · have HGx : Hid (G = ⟨s, a, L, sc, wt⟩) := Lib.hid (by have h1 := HMD.out; have h2 := HMS.out; have h3 := HMW.out; rw [if_neg (by decide)] at h1 h2 h3; rw [HMk.out, h1, h2, h3])
      clear HTk HMD HMS HMW HMk HKd
      go_wp2_with fail
      refine ((HKk.out _ (by repeat (first | with_reducible exact HR.out | with_reducible apply Rd.drewN | with_reducible apply Rd.drew | with_reducible apply Rd.alloc)))).mono ?_
      rintro e w3 ⟨rfl, b⟩
      have Sw3 := Lib.hid b.size
      have HB := Lib.hid (chain0 (w := w) (by repeat (first | with_reducible exact Below.refl _ _ | with_reducible exact HB.out | with_reducible apply Below.drew | with_reducible apply bdN | with_reducible refine Below.alloc ?_ (by first | exact Nat.le_refl _ | with_reducible exact HB.out.size | omega | (simp; done) | (simp; omega) | (have := HB.out.size; simp at *; omega)) _ | with_reducible refine Below.setCell ?_ (by first | exact Nat.le_refl _ | with_reducible exact HB.out.size | omega | (simp; done) | (simp; omega) | (have := HB.out.size; simp at *; omega)) _)) b)
      have HZr := Lib.hid (SzA.below (by repeat (first | with_reducible exact HZr.out | with_reducible apply SzA.drewN | with_reducible apply SzA.drew | with_reducible apply SzA.alloc)) b)
      have HG := Lib.hid (OwnG.below (by repeat (first | with_reducible exact HG.out | with_reducible apply OwnG.drewN | with_reducible apply OwnG.drew | with_reducible apply OwnG.alloc)) b)
      have HR := Lib.hid (Rd.below (by repeat (first | with_reducible exact HR.out | with_reducible apply Rd.drewN | with_reducible apply Rd.drew | with_reducible apply Rd.alloc)) b)
      have K6 : Hid (GBox _ (g6) (⟨33, s, a, .slice p2 m c2, .slice (some ⟨gs, 0, none⟩) nw cs1, .slice (some ⟨gw, 0, none⟩) nw cw1⟩)) := Lib.hid (GBox.below (by repeat (first | with_reducible exact K6.out | with_reducible apply GBox.drewN | with_reducible apply GBox.drew | (with_reducible refine GBox.newAt ?_ ?_ <;> first | (simp; done) | rfl) | with_reducible apply GBox.alloc)) b)
      have K3 : Hid (CBox _ (w.heap.size + 1) (⟨61, cl⟩)) := Lib.hid (CBox.below (by repeat (first | with_reducible exact K3.out | with_reducible apply CBox.drewN | with_reducible apply CBox.drew | (with_reducible refine CBox.newAt ?_ ?_ <;> first | (simp; done) | rfl) | with_reducible apply CBox.alloc)) b)
      have K4 : Hid (GBox _ (w.heap.size + 1 + 1) (⟨33, 0, 0, .slice none 0 0, .slice none 0 0, .slice none 0 0⟩)) := Lib.hid (GBox.below (by repeat (first | with_reducible exact K4.out | with_reducible apply GBox.drewN | with_reducible apply GBox.drew | (with_reducible refine GBox.newAt ?_ ?_ <;> first | (simp; done) | rfl) | with_reducible apply GBox.alloc)) b)
      try clear k6a k6b k6c k6d k6e k6z
      have k6z := K6.out.lt
      obtain ⟨k6a, k6b, k6c, k6d, k6e⟩ := K6.out.cell
      try clear k6f
      have k6f := K6.out.frozen
      try clear k3a k3b k3c k3d k3z
      have k3z := K3.out.lt
      obtain ⟨k3a, k3b, k3c, k3d⟩ := K3.out.cell
      try clear k4a k4b k4c k4d k4e k4z
      have k4z := K4.out.lt
      obtain ⟨k4a, k4b, k4c, k4d, k4e⟩ := K4.out.cell
      try clear k4f
      have k4f := K4.out.frozen
      clear b
      go_wp2_with fail
      try simp only [Exit.inBlock, Exit.then]
      refine bodyPost_ret (res_game2 Try.results60 rfl (K4.out.set_ _ _ _ _ _)) rfl ?_
      have HGf := (((((HG.out.far (g := w.heap.size + 1 + 1) (.inl (by omega)) 0 (.int .i64 s)).far (g := w.heap.size + 1 + 1) (.inl (by omega)) 1 (.int .i64 a)).far (g := w.heap.size + 1 + 1) (.inl (by omega)) 2 (.slice p2 m c2)).far (g := w.heap.size + 1 + 1) (.inl (by omega)) 3 (.slice (some ⟨gs, 0, none⟩) nw cs1)).far (g := w.heap.size + 1 + 1) (.inl (by omega)) 4 (.slice (some ⟨gw, 0, none⟩) nw cw1))
      refine ⟨_, _, _, by rw [HGx.out]; rfl, ?_, by repeat (first | with_reducible exact Below.refl _ _ | with_reducible exact HB.out | with_reducible apply Below.drew | with_reducible apply bdN | with_reducible refine Below.alloc ?_ (by first | exact Nat.le_refl _ | with_reducible exact HB.out.size | omega | (simp; done) | (simp; omega) | (have := HB.out.size; simp at *; omega)) _ | with_reducible refine Below.setCell ?_ (by first | exact Nat.le_refl _ | with_reducible exact HB.out.size | omega | (simp; done) | (simp; omega) | (have := HB.out.size; simp at *; omega)) _)⟩
      rw [HGx.out]
      exact (HGf.base (show w.heap.size ≤ w.heap.size + 1 + 1 + 1 by omega)).top (by have := HZr.out.h; simpa [World.setCell] using this)
end Go.Proofs.Ytjpfjgoebdogjaa.game

