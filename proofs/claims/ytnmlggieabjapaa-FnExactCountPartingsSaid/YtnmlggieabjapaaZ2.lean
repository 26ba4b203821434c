/- The first greatest picking: the program's. -/
import Derived.Test.YtnmlggieabjapaaZy
import Derived.Test.YtnmlggieabjapaaZe
namespace Go.Proofs.Ytnmlggieabjapaa.parting
open Go.RowKit
open cards maps
set_option linter.unusedVariables false

/-- The captured greatest one: its variable's block gv, and the picking in it. -/
def Jf (B gv : Nat) (w : World) (s : List A3) : Prop := B ≤ w.heap.size ∧ ∃ g c, LBox w gv (.slice (some ⟨g, 0, none⟩) s.length c) ∧ PsO B gv w g s.length c s
theorem Jf.one {B gv : Nat} : ∀ w s, Jf B gv w s → B ≤ w.heap.size ∧ gv < w.heap.size := by
  rintro w s ⟨hB, g, c, h1, _⟩
  exact ⟨hB, h1.lt⟩
theorem Jf.two {B gv : Nat} : ∀ w w' s, Jf B gv w s → Below w.heap.size w w' → Jf B gv w' s := by
  rintro w w' s ⟨hB, g, c, h1, h2⟩ hb
  exact ⟨Nat.le_trans hB hb.size, g, c, h1.below hb, h2.below hb⟩
theorem turn_set (w : World) (gv o : Nat) (v : Value) : Turn (fun j => j = gv) w (w.setCell ⟨gv, o, none⟩ v) :=
  ⟨rfl, rfl, rfl, by simp [World.setCell], fun j hj hs => heap_setCell_other w ⟨gv, o, none⟩ j v hs⟩
theorem LBox.set_ {w : World} {gv : Nat} {v : Value} (h : LBox w gv v) (u : Value) : LBox (w.setCell ⟨gv, 0, none⟩ u) gv u := heap_setCell_same w gv 0 _ _ _ h
theorem LBox.frozen {w : World} {gv : Nat} {v : Value} (h : LBox w gv v) : w.frozen? ⟨gv, 0, none⟩ = false := frozen_of_row w gv 0 _ _ h

set_option maxRecDepth 100000 in
set_option maxHeartbeats 4000000 in
theorem first_fun (B gv : Nat) : ∀ w s (ps : List A3) (g m c : Nat), Jf B gv w s → PsO B gv w g m c ps → ps.length = m → m ≤ 1000000 →
    Calls Try.prog 99 #[.slice (some ⟨g, 0, none⟩) m c, .pointer (some ⟨gv, 0, none⟩)] w fun e w' => e = .returned (.tuple #[]) ∧ Jf B gv w' (gfP s ps) ∧ Turn (fun j => j = gv) w w' := by
  rintro w s ps g m c ⟨hB, gs, cs, h1, h2⟩ hp hm hl
  have c0 := h1.cell
  have cf := h1.frozen
  have H1 := Lib.hid h1
  have H2 := Lib.hid h2
  have HP := Lib.hid hp
  have HM := Lib.hid hm
  have HBs := Lib.hid hB
  obtain ⟨k, hk⟩ : ∃ k, s.length = k := ⟨_, rfl⟩
  have HKs := Lib.hid hk
  rw [hk] at c0
  clear h1 h2 hp hm hk hB
  by_cases hlt : k < m
  · have HG := Lib.hid (show gfP s ps = ps by unfold gfP; rw [if_pos (by rw [HKs.out, HM.out]; exact hlt)])
    have hd : (k : Int) < (m : Int) := by omega
    go_enter Try.func99, Try.ntmps99
    go_wp2_with fail
    go_end0
    refine ⟨rfl, ?_, turn_set w gv 0 _⟩
    rw [HG.out]
    exact ⟨by have := HBs.out; simpa [World.setCell] using this, g, c, by rw [HM.out]; exact H1.out.set_ _, by rw [HM.out]; exact HP.out.turn (turn_set w gv 0 _)⟩
  · have HG := Lib.hid (show gfP s ps = s by unfold gfP; rw [if_neg (by rw [HKs.out, HM.out]; exact hlt)])
    have hd : ¬ (k : Int) < (m : Int) := by omega
    go_enter Try.func99, Try.ntmps99
    go_wp2_with fail
    go_end0
    exact ⟨rfl, by rw [HG.out]; exact ⟨HBs.out, gs, cs, H1.out, H2.out⟩, Turn.refl _ _⟩

noncomputable def poolP (l : List Cd) : Bool := handB l && decide (l.length ≤ 15)
theorem poolP_iff {l : List Cd} : poolP l = true ↔ handB l = true ∧ l.length ≤ 15 := by unfold poolP; simp

set_option maxRecDepth 100000 in
set_option maxHeartbeats 2000000 in
theorem can_be (l : List Cd) (p : Option Addr) (n cp : Nat) (w : World) (hn : l.length = n) (hl : n ≤ 1000000000) (hr : Rd w p (flat l)) :
    Calls Try.prog 72 #[.slice p n cp] w fun e w' => e = .returned (.bool (poolP l)) ∧ Below w.heap.size w w' := by
  have HI := Lib.hid (is_hand l p n cp w hn hl hr)
  have HN := Lib.hid hn
  clear hn hr
  by_cases h : n ≤ 15
  · have hd : (n : Int) ≤ 15 := by omega
    have HP := Lib.hid (show handB l = poolP l by unfold poolP; rw [HN.out, decide_eq_true h, Bool.and_true])
    go_enter Try.func72, Try.ntmps72
    go_wp2_with fail
    refine ((HI.out)).mono ?_
    rintro e w1 ⟨rfl, b⟩
    have Sw1 := Lib.hid b.size
    have HB := Lib.hid (chain0 (w := w) (by repeat (first | with_reducible exact Below.refl _ _ | with_reducible exact HB.out | with_reducible apply Below.drew | with_reducible apply bdN | with_reducible refine Below.alloc ?_ (by first | exact Nat.le_refl _ | with_reducible exact HB.out.size | omega | (simp; done) | (simp; omega) | (have := HB.out.size; simp at *; omega)) _ | with_reducible refine Below.setCell ?_ (by first | exact Nat.le_refl _ | with_reducible exact HB.out.size | omega | (simp; done) | (simp; omega) | (have := HB.out.size; simp at *; omega)) _)) b)
    clear b
    go_wp2_with fail
    go_ret
    exact ⟨ret_bool HP.out, HB.out⟩
  · have hd : ¬ (n : Int) ≤ 15 := by omega
    have HP := Lib.hid (show false = poolP l by unfold poolP; rw [HN.out, decide_eq_false h, Bool.and_false])
    go_enter Try.func72, Try.ntmps72
    go_wp2_with fail
    go_ret
    exact ⟨ret_bool HP.out, Below.refl _ _⟩

set_option maxRecDepth 100000 in
set_option maxHeartbeats 4000000 in
theorem first_picking (l : List Cd) (p : Option Addr) (n cp : Nat) (w : World) (hn : l.length = n) (hr : Rd w p (flat l)) (hh : handB l = true) :
    Calls Try.prog 73 #[.slice p n cp] w fun e w' => ∃ u, e = .returned u ∧ OwnA3 w' w.heap.size u (bestP (allL l n)) ∧ Below w.heap.size w w' := by
  have HN := Lib.hid hn
  have HR := Lib.hid hr
  have HH := handB_true.1 hh
  have h27 : n ≤ 27 := by have := HH.1; omega
  have hlr : linR l = (allL l n, true) := by unfold linR; rw [if_pos hh, HN.out]
  have hlen := lines_len HH
  have HLi := impl_lin l p n cp w HN.out (by omega) HR.out
  rw [HN.out] at hlen
  rw [hlr] at HLi
  obtain ⟨A, hA⟩ : ∃ A, allL l n = A := ⟨_, rfl⟩
  rw [hA] at HLi hlen ⊢
  have HBe := Lib.hid (bestP_vis A)
  replace HLi := Lib.hid HLi
  obtain ⟨m, hm⟩ : ∃ m, A.length = m := ⟨_, rfl⟩
  rw [hm] at hlen
  have HM := Lib.hid hm
  clear hn hr hh HH hlr hA hm
  go_enter Try.func73, Try.ntmps73
  go_wp2_with fail
  refine (HLi.out).mono ?_
  rintro e w1 ⟨u1, rfl, hu, b⟩
  have HB := Lib.hid b
  obtain ⟨pa, ca, rfl, hca, ra, hpa⟩ := hu.form
  rw [HM.out] at hca hpa ⊢
  have HX : Hid (RdN (w1.heap.size + 1) w1 pa (A3.flat A)) := Lib.hid ⟨ra, fun hp b' o' e => by
    obtain ⟨b2, o2, e2, hlt, _⟩ := ra hp
    rw [e2] at e
    injection e with e
    injection e with e1 _
    omega⟩
  clear ra hu b hpa
  have HW : Hid (Below w1.heap.size w1 (((w1.alloc (.cells #[] 56)).alloc (.cells #[.slice (some ⟨w1.heap.size, 0, none⟩) 0 0] 24)).alloc (.cells #[] 56))) := Lib.hid ((((Below.refl _ _).alloc (Nat.le_refl _) _).alloc (by simp) _).alloc (by simp; omega) _)
  have HJ : Hid (Jf w1.heap.size (w1.heap.size + 1) (((w1.alloc (.cells #[] 56)).alloc (.cells #[.slice (some ⟨w1.heap.size, 0, none⟩) 0 0] 24)).alloc (.cells #[] 56)) []) := Lib.hid
    ⟨by simp; omega, w1.heap.size, 0, LBox.alloc (LBox.newAt (by simp) rfl) _, OwnA3.alloc (OwnA3.alloc (OwnA3.empty w1 w1.heap.size (Nat.le_refl _)) _) _, by omega⟩
  have HPs : Hid (PsO w1.heap.size (w1.heap.size + 1) (((w1.alloc (.cells #[] 56)).alloc (.cells #[.slice (some ⟨w1.heap.size, 0, none⟩) 0 0] 24)).alloc (.cells #[] 56)) (w1.heap.size + 1 + 1) 0 0 []) := Lib.hid
    ⟨by
      have h := OwnA3.empty ((w1.alloc (.cells #[] 56)).alloc (.cells #[.slice (some ⟨w1.heap.size, 0, none⟩) 0 0] 24)) w1.heap.size (by simp; omega)
      simpa using h, by omega⟩
  go_wp2_with fail
  refine (visit_pick1 (List A3) gfP w1.heap.size (w1.heap.size + 1) (Jf w1.heap.size (w1.heap.size + 1)) 99 _ Jf.one Jf.two (fun _ _ => rfl) (fun w s ps g m c h1 h2 h3 h4 => first_fun _ _ w s ps g m c h1 h2 h3 h4) m A [] _ 0 0 pa ca [] _ HM.out rfl (by omega) (Nat.le_refl _) hca HJ.out HPs.out (HX.out.below HW.out)).mono ?_
  rintro e w2 ⟨rfl, hj, ht⟩
  have HBe2 : Hid ((tls A []).foldl gfP (gfP [] []) = bestP A) := Lib.hid (by rw [HBe.out]; rfl)
  rw [HBe2.out] at hj
  obtain ⟨hBz, gq, cq, hq1, hq2⟩ := hj
  have c0 := hq1.cell
  have HQ2 := Lib.hid hq2
  have HB2 : Hid (Below w.heap.size w w2) := Lib.hid ⟨ht.os.trans (HW.out.os.trans HB.out.os), ht.tape.trans (HW.out.tape.trans HB.out.tape), ht.output.trans (HW.out.output.trans HB.out.output), by have h1 := ht.size; have h2 := HW.out.size; have h3 := HB.out.size; omega, fun j hj => (ht.block j (by have h2 := HW.out.size; have h3 := HB.out.size; omega) (by have h3 := HB.out.size; omega)).trans ((HW.out.block j (by have h3 := HB.out.size; omega)).trans (HB.out.block j hj))⟩
  have HBz := Lib.hid HB.out.size
  clear ht hq1 hq2 hBz HJ HPs HW HX
  try go_end0
  go_wp2_with fail
  go_ret
  exact ⟨_, rfl, OwnA3.base HQ2.out.1 HBz.out, HB2.out⟩
end Go.Proofs.Ytnmlggieabjapaa.parting
