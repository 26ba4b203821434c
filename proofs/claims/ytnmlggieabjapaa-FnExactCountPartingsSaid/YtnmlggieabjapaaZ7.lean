/- Pickings counted: the program's. -/
import Derived.Test.YtnmlggieabjapaaZ1
import Derived.Test.YtnmlggieabjapaaZ2
import Derived.Test.YtnmlggieabjapaaZ5
namespace Go.Proofs.Ytnmlggieabjapaa.parting
open Go.RowKit
open cards maps
set_option linter.unusedVariables false

/-- One picking visited. -/
def cwP (N : Int) (s : Int) (ps : List A3) : Int := if (ps.length : Int) * 3 = N then wrap64 (s + 1) else s
theorem cwP_all (N : Int) : ∀ (t : List (List A3)) (s : Int), 0 ≤ s → s + t.length ≤ 1000000000000 → t.foldl (cwP N) s = s + (t.countP (fun q => decide ((q.length : Int) * 3 = N)) : Nat)
  | [], s, _, _ => by simp
  | q :: t, s, h0, h1 => by
    rw [List.foldl_cons, List.countP_cons]
    have hl : ((q :: t).length : Int) = t.length + 1 := by simp
    rw [hl] at h1
    by_cases h : (q.length : Int) * 3 = N
    · have e : cwP N s q = s + 1 := by unfold cwP; rw [if_pos h]; unfold wrap64; omega
      rw [e, cwP_all N t (s + 1) (by omega) (by omega), if_pos (by simp [h])]
      omega
    · have e : cwP N s q = s := by unfold cwP; rw [if_neg h]
      rw [e, cwP_all N t s h0 (by omega), if_neg (by simp [h])]
      simp
/-- What the closure has captured: the number of cards in gc, the count in gv. -/
def Jc (B gc gv : Nat) (N : Int) (w : World) (s : Int) : Prop := B ≤ w.heap.size ∧ IBox w gc N ∧ IBox w gv s ∧ gc ≠ gv
theorem Jc.one {B gc gv : Nat} {N : Int} : ∀ w s, Jc B gc gv N w s → B ≤ w.heap.size ∧ gv < w.heap.size := by
  rintro w s ⟨hB, _, h2, _⟩
  exact ⟨hB, h2.lt⟩
theorem Jc.two {B gc gv : Nat} {N : Int} : ∀ w w' s, Jc B gc gv N w s → Below w.heap.size w w' → Jc B gc gv N w' s := by
  rintro w w' s ⟨hB, h1, h2, h3⟩ hb
  exact ⟨Nat.le_trans hB hb.size, h1.below hb, h2.below hb, h3⟩
theorem IBox.set_ {w : World} {gv : Nat} {v : Int} (h : IBox w gv v) (u : Int) : IBox (w.setCell ⟨gv, 0, none⟩ (.int .i64 u)) gv u := heap_setCell_same w gv 0 _ _ _ h
theorem IBox.far {w : World} {g gv : Nat} {v : Int} (h : IBox w g v) (hne : g ≠ gv) (u : Value) : IBox (w.setCell ⟨gv, 0, none⟩ u) g v := (heap_setCell_other w ⟨gv, 0, none⟩ g u hne).trans h
theorem IBox.frozen {w : World} {gv : Nat} {v : Int} (h : IBox w gv v) : w.frozen? ⟨gv, 0, none⟩ = false := frozen_of_row w gv 0 _ _ h

set_option maxRecDepth 100000 in
set_option maxHeartbeats 4000000 in
theorem count_fun (B gc gv : Nat) (N : Int) : ∀ w s (ps : List A3) (g m c : Nat), Jc B gc gv N w s → PsO B gv w g m c ps → ps.length = m → m ≤ 1000000 →
    Calls Try.prog 100 #[.slice (some ⟨g, 0, none⟩) m c, .pointer (some ⟨gc, 0, none⟩), .pointer (some ⟨gv, 0, none⟩)] w fun e w' => e = .returned (.tuple #[]) ∧ Jc B gc gv N w' (cwP N s ps) ∧ Turn (fun j => j = gv) w w' := by
  rintro w s ps g m c ⟨hB, h1, h2, h3⟩ hp hm hl
  have c0 := h1.cell
  have c1 := h2.cell
  have cf := h2.frozen
  have H1 := Lib.hid h1
  have H2 := Lib.hid h2
  have H3 := Lib.hid h3
  have HM := Lib.hid hm
  have HBs := Lib.hid hB
  clear h1 h2 h3 hp hm hB
  by_cases hlt : (m : Int) * 3 = N
  · have HG := Lib.hid (show cwP N s ps = wrap64 (s + 1) by unfold cwP; rw [if_pos (by rw [HM.out]; exact hlt)])
    have hd : ((m : Int) * 3 == N) = true := by simp [hlt]
    clear hlt
    go_enter Try.func100, Try.ntmps100
    go_wp2_with fail
    go_end0
    refine ⟨rfl, ?_, turn_set w gv 0 _⟩
    rw [HG.out]
    exact ⟨by have := HBs.out; simpa [World.setCell] using this, H1.out.far H3.out _, H2.out.set_ _, H3.out⟩
  · have HG := Lib.hid (show cwP N s ps = s by unfold cwP; rw [if_neg (by rw [HM.out]; exact hlt)])
    have hd : ((m : Int) * 3 == N) = false := by simp [hlt]
    clear hlt
    go_enter Try.func100, Try.ntmps100
    go_wp2_with fail
    go_end0
    exact ⟨rfl, by rw [HG.out]; exact ⟨HBs.out, H1.out, H2.out, H3.out⟩, Turn.refl _ _⟩

/-- How many pickings have so many cards. -/
def cntP (A : List A3) (N : Int) : Nat := ([] :: tls A []).countP (fun q => decide ((q.length : Int) * 3 = N))
theorem cntP_three (A : List A3) (r : Nat) : cntP A ((r : Int) * 3) = ct0 A [] r := by
  rw [← ct0_vis]
  unfold cntP
  congr 1
  funext q
  rw [Bool.eq_iff_iff, decide_eq_true_eq, decide_eq_true_eq]
  omega
theorem cntP_no (A : List A3) (n : Nat) (h : n % 3 ≠ 0) : cntP A (n : Int) = 0 := by
  unfold cntP
  rw [List.countP_eq_zero]
  intro q _
  simp
  omega
theorem few_lines {l : List Cd} {n : Nat} (hn : l.length = n) (h : isHand l) (h15 : n ≤ 15) : (allL l n).length ≤ 35 := by
  have h1 := open_lines hn h.2.2 h.2.1
  have h2 : n * (n - 1) ≤ 15 * 14 := Nat.mul_le_mul h15 (by omega)
  omega
theorem cntP_fold (A : List A3) (N : Int) (hA : A.length ≤ 35) : (tls A []).foldl (cwP N) (cwP N 0 []) = (cntP A N : Nat) := by
  have h1 := tls_two A []
  have h2 : 2 ^ A.length ≤ 2 ^ 35 := Nat.pow_le_pow_right (by omega) hA
  have h3 := cwP_all N ([] :: tls A []) 0 (by omega) (by simp; omega)
  rw [List.foldl_cons] at h3
  rw [h3]
  unfold cntP
  omega

set_option maxRecDepth 100000 in
set_option maxHeartbeats 4000000 in
theorem count_pickings (l : List Cd) (N : Int) (p : Option Addr) (n cp : Nat) (w : World) (hn : l.length = n) (hr : Rd w p (flat l)) (hh : handB l = true) (h15 : n ≤ 15) :
    Calls Try.prog 75 #[.slice p n cp, .int .i64 N] w fun e w' => e = .returned (.int .i64 (cntP (allL l n) N : Nat)) ∧ Below w.heap.size w w' := by
  have HN := Lib.hid hn
  have HR := Lib.hid hr
  have HH := handB_true.1 hh
  have hlr : linR l = (allL l n, true) := by unfold linR; rw [if_pos hh, HN.out]
  have hlen := few_lines HN.out HH h15
  have HLi := fun w' (hw : Rd w' p (flat l)) => impl_lin l p n cp w' HN.out (by omega) hw
  rw [hlr] at HLi
  obtain ⟨A, hA⟩ : ∃ A, allL l n = A := ⟨_, rfl⟩
  rw [hA] at HLi hlen ⊢
  have HBe := Lib.hid (cntP_fold A N hlen)
  replace HLi := Lib.hid HLi
  obtain ⟨m, hm⟩ : ∃ m, A.length = m := ⟨_, rfl⟩
  rw [hm] at hlen
  have HM := Lib.hid hm
  have HI0 : Hid (IBox (w.alloc (.cells #[.int .i64 N] 3)) w.heap.size N) := Lib.hid (IBox.newAt rfl rfl)
  have HB0 : Hid (Below w.heap.size w (w.alloc (.cells #[.int .i64 N] 3))) := Lib.hid ((Below.refl _ _).alloc (Nat.le_refl _) _)
  clear hn hr hh HH hlr hA hm
  go_enter Try.func75, Try.ntmps75
  go_wp2_with fail
  refine (HLi.out _ (HR.out.alloc _)).mono ?_
  rintro e w1 ⟨u1, rfl, hu, b⟩
  have HB : Hid (Below w.heap.size w w1) := Lib.hid (chain0 HB0.out b)
  have HI1 := Lib.hid (HI0.out.below b)
  have HZ1 : Hid (w.heap.size < w1.heap.size) := Lib.hid HI1.out.lt
  obtain ⟨pa, ca, rfl, hca, ra, hpa⟩ := hu.form
  rw [HM.out] at hca hpa ⊢
  have HX : Hid (RdN w1.heap.size w1 pa (A3.flat A)) := Lib.hid ⟨ra, fun hp b' o' e => by
    obtain ⟨b2, o2, e2, hlt, _⟩ := ra hp
    rw [e2] at e
    injection e with e
    injection e with e1 _
    omega⟩
  clear ra hu b hpa HI0 HB0
  have HW : Hid (Below w1.heap.size w1 ((w1.alloc (.cells #[.int .i64 0] 3)).alloc (.cells #[] 56))) := Lib.hid (((Below.refl _ _).alloc (Nat.le_refl _) _).alloc (by simp) _)
  have HJ : Hid (Jc w.heap.size w.heap.size w1.heap.size N ((w1.alloc (.cells #[.int .i64 0] 3)).alloc (.cells #[] 56)) 0) := Lib.hid
    ⟨by have := HZ1.out; simp; omega, (HI1.out.alloc _).alloc _, IBox.alloc (IBox.newAt rfl rfl) _, by have := HZ1.out; omega⟩
  have HPs : Hid (PsO w.heap.size w1.heap.size ((w1.alloc (.cells #[.int .i64 0] 3)).alloc (.cells #[] 56)) (w1.heap.size + 1) 0 0 []) := Lib.hid
    ⟨OwnA3.emptyAt (by simp) (by have := HZ1.out; omega), by omega⟩
  go_wp2_with fail
  refine (visit_pick2 Int (cwP N) w.heap.size w1.heap.size (Jc w.heap.size w.heap.size w1.heap.size N) 100 _ _ Jc.one Jc.two (fun _ _ => rfl) (fun w' s ps g m c h1 h2 h3 h4 => count_fun _ _ _ _ w' s ps g m c h1 h2 h3 h4) m A [] _ 0 0 pa ca 0 _ HM.out rfl (by omega) (Nat.le_refl _) hca HJ.out HPs.out (HX.out.below HW.out)).mono ?_
  rintro e w2 ⟨rfl, hj, ht⟩
  rw [HBe.out] at hj
  obtain ⟨hBz, _, hq1, _⟩ := hj
  have c0 := hq1.cell
  have HB2 : Hid (Below w.heap.size w w2) := Lib.hid ⟨ht.os.trans (HW.out.os.trans HB.out.os), ht.tape.trans (HW.out.tape.trans HB.out.tape), ht.output.trans (HW.out.output.trans HB.out.output), by have h1 := ht.size; have h2 := HW.out.size; have h3 := HB.out.size; omega, fun j hj => (ht.block j (by have h2 := HW.out.size; have h3 := HB.out.size; omega) (by have h3 := HB.out.size; omega)).trans ((HW.out.block j (by have h3 := HB.out.size; omega)).trans (HB.out.block j hj))⟩
  clear ht hq1 hBz HJ HPs HW HX
  try go_end0
  go_wp2_with fail
  go_ret
  exact ⟨rfl, HB2.out⟩
end Go.Proofs.Ytnmlggieabjapaa.parting
