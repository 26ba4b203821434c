/- Merged texts: V5. -/
import Derived.Test.YtcjmlddpjbneiaaV1
import Derived.Test.YtcjmlddpjbneiaaV3
import Derived.Test.YtcjmlddpjbneiaaV4
import Derived.Test.YtcjmlddpjbneiaaSj
import Derived.Test.YtcjmlddpjbneiaaSx
import Derived.Deep.DeepCutAuto
/- The law on splitting and joining: its walk. -/
namespace Go.Proofs.Ytcjmlddpjbneiaa.draw
open Go.RowKit
open cards
set_option linter.unusedVariables false

set_option maxRecDepth 100000 in
theorem less_impl (a b : ByteArray) (w : World) :
    Calls Try.prog 14 #[.string a, .string b] w fun e w' => e = .returned (.bool (Op.bytesLess a.toList b.toList)) ∧ w = w' := by
  go_enter Try.func14, Try.ntmps14
  go_wp2
  go_ret
  exact ⟨rfl, rfl⟩
theorem less_spec (a b : ByteArray) (w : World) :
    Calls Try.prog 15 #[.string a, .string b] w fun e w' => e = .returned (.bool (Op.bytesLess a.toList b.toList)) ∧ w = w' := by
  go_enter Try.func15, Try.ntmps15
  go_wp2
  go_ret
  exact ⟨rfl, rfl⟩
theorem less_asymm : ∀ x y : List UInt8, Op.bytesLess x y = true → Op.bytesLess y x = false
  | [], [], h => by simp [Op.bytesLess] at h
  | [], _ :: _, _ => by simp [Op.bytesLess]
  | _ :: _, [], h => by simp [Op.bytesLess] at h
  | a :: x, b :: y, h => by
    have ih := less_asymm x y
    simp only [Op.bytesLess, Bool.or_eq_true, Bool.and_eq_true, decide_eq_true_eq, beq_iff_eq] at h
    simp only [Op.bytesLess, Bool.or_eq_false_iff, Bool.and_eq_false_iff, decide_eq_false_iff_not]
    rcases h with h | ⟨rfl, h⟩
    · refine ⟨fun h2 => ?_, .inl ?_⟩
      · have h3 := UInt8.lt_iff_toNat_lt.1 h
        have h4 := UInt8.lt_iff_toNat_lt.1 h2
        omega
      · rw [beq_eq_false_iff_ne]
        rintro rfl
        have h3 := UInt8.lt_iff_toNat_lt.1 h
        omega
    · refine ⟨fun h2 => ?_, .inr (ih h)⟩
      have h3 := UInt8.lt_iff_toNat_lt.1 h2
      omega
theorem sm_mem : ∀ {L : List ByteArray} {x : ByteArray}, x ∈ L → x.size ≤ sm L
  | y :: L, x, h => by
    simp only [sm]
    rcases List.mem_cons.1 h with rfl | h
    · omega
    · have := sm_mem h; omega
theorem parts_size (s : ByteArray) (b : UInt8) (h : s.size ≤ 20) : (cut.parts s b).length ≤ 21 ∧ ∀ x ∈ cut.parts s b, x.size ≤ 1048576 := by
  have h2 := sm_parts s b
  exact ⟨by omega, fun x hx => by have := sm_mem hx; omega⟩
set_option maxRecDepth 100000 in
set_option maxHeartbeats 8000000 in
theorem law_sj (p : Option Addr) (n c : Nat) (l : List Int) (w : World) (hs : n ≤ 65536) (hr : Rd w p (bys l)) (hl : l.length = n) (hy : isByte l) :
    Calls Try.prog 3 #[.slice p n c] w fun e w' => e = .returned (.bool true) ∧ Below w.heap.size w w' := by
  have HD1 := Lib.hid (fun w h => draw_split p n c l w (by omega) h hl hy)
  have HD2 := Lib.hid (fun w h => draw_join p n c l w (by omega) h hl hy)
  have HD3 := Lib.hid (fun w h => draw_less p n c l w (by omega) h hl hy)
  have HV := Lib.hid (v_big p n c w false (decide_eq_false (by omega)))
  have HR := Lib.hid hr
  have HB := Lib.hid (Below.refl w.heap.size w)
  clear hr hl hy
  go_enter Try.func3, Try.ntmps3
  go_wp2_with fail
  refine (HV.out).mono ?_
  rintro e w0 ⟨rfl, rfl⟩
  go_wp2_with fail
  refine ((HD1.out _ HR.out)).mono ?_
  rintro e wa ⟨s, q, rfl, hs1, hq1, b⟩
  have Swa := Lib.hid b.size
  have HB := Lib.hid (chain0 (w := w) (by repeat (first | with_reducible exact Below.refl _ _ | with_reducible exact HB.out | with_reducible apply Below.drew | with_reducible apply bdN | with_reducible refine Below.alloc ?_ (by first | exact Nat.le_refl _ | with_reducible exact HB.out.size | omega | (simp; done) | (simp; omega) | (have := HB.out.size; simp at *; omega)) _ | with_reducible refine Below.setCell ?_ (by first | exact Nat.le_refl _ | with_reducible exact HB.out.size | omega | (simp; done) | (simp; omega) | (have := HB.out.size; simp at *; omega)) _)) b)
  have HR := Lib.hid (Rd.below (by repeat (first | with_reducible exact HR.out | with_reducible apply Rd.drewN | with_reducible apply Rd.drew | with_reducible apply Rd.alloc)) b)
  clear b
  have HS1 := Lib.hid hs1
  have HQ1 := Lib.hid hq1
  clear hs1 hq1
  by_cases hq : q.size = 1
  · obtain ⟨y, rfl⟩ := spl.sep_one q hq
    clear hq
    have HI := Lib.hid (fun w => spl.impl_post s y w (by have := HS1.out; omega))
    have HBk := Lib.hid (back_parts s y (by have := HS1.out; omega))
    have HPs := Lib.hid (parts_size s y HS1.out)
    obtain ⟨P, hP⟩ : ∃ P, cut.parts s y = P := ⟨_, rfl⟩
    rw [hP] at HI HBk HPs
    clear hP
    go_wp2_with fail
    refine ((HI.out _)).mono ?_
    rintro e wb ⟨v, rfl, hv, b⟩
    have Swb := Lib.hid b.size
    have HB := Lib.hid (chain0 (w := w) (by repeat (first | with_reducible exact Below.refl _ _ | with_reducible exact HB.out | with_reducible apply Below.drew | with_reducible apply bdN | with_reducible refine Below.alloc ?_ (by first | exact Nat.le_refl _ | with_reducible exact HB.out.size | omega | (simp; done) | (simp; omega) | (have := HB.out.size; simp at *; omega)) _ | with_reducible refine Below.setCell ?_ (by first | exact Nat.le_refl _ | with_reducible exact HB.out.size | omega | (simp; done) | (simp; omega) | (have := HB.out.size; simp at *; omega)) _)) b)
    have HR := Lib.hid (Rd.below (by repeat (first | with_reducible exact HR.out | with_reducible apply Rd.drewN | with_reducible apply Rd.drew | with_reducible apply Rd.alloc)) b)
    clear b
    have hv2 : OwnT wb wa.heap.size v P := hv
    obtain ⟨pv, cv, rfl, hcv, hrv⟩ := hv2.form
    have HRv := Lib.hid hrv
    have HCv := Lib.hid hcv
    clear hv hv2 hrv hcv
    go_wp2_with fail
    refine ((HD2.out _ HR.out)).mono ?_
    rintro e wc0 ⟨vj, L, mk, rfl, hj1, hj2, hj3, hj4, b⟩
    have Swc0 := Lib.hid b.size
    have HB := Lib.hid (chain0 (w := w) (by repeat (first | with_reducible exact Below.refl _ _ | with_reducible exact HB.out | with_reducible apply Below.drew | with_reducible apply bdN | with_reducible refine Below.alloc ?_ (by first | exact Nat.le_refl _ | with_reducible exact HB.out.size | omega | (simp; done) | (simp; omega) | (have := HB.out.size; simp at *; omega)) _ | with_reducible refine Below.setCell ?_ (by first | exact Nat.le_refl _ | with_reducible exact HB.out.size | omega | (simp; done) | (simp; omega) | (have := HB.out.size; simp at *; omega)) _)) b)
    have HR := Lib.hid (Rd.below (by repeat (first | with_reducible exact HR.out | with_reducible apply Rd.drewN | with_reducible apply Rd.drew | with_reducible apply Rd.alloc)) b)
    have HRv := Lib.hid (Rd.below (by repeat (first | with_reducible exact HRv.out | with_reducible apply Rd.drewN | with_reducible apply Rd.drew | with_reducible apply Rd.alloc)) b)
    clear b
    obtain ⟨pj, cj, rfl, hcj, hrj⟩ := hj1.form
    have HRj := Lib.hid hrj
    clear hj1 hrj
    have HJ1 := Lib.hid (fun w h => impl_join L mk pj L.length cj w rfl (by omega) (fun x hx => Nat.le_trans (hj3 x hx) (by omega)) (by omega) h hcj)
    have HJ2 := Lib.hid (fun w h => spec_join L mk pj L.length cj w rfl (by omega) (fun x hx => Nat.le_trans (hj3 x hx) (by omega)) (by omega) h)
    obtain ⟨j, hjj⟩ : ∃ j, (jsR L mk).1 = j := ⟨_, rfl⟩
    obtain ⟨fine, hff⟩ : ∃ fine, (jsR L mk).2 = fine := ⟨_, rfl⟩
    rw [hjj, hff] at HJ1 HJ2
    obtain ⟨nl, hnl⟩ : ∃ nl, L.length = nl := ⟨_, rfl⟩
    rw [hnl] at HJ1 HJ2 ⊢
    clear hj2 hj3 hj4 hcj hjj hff hnl
    go_wp2_with fail
    refine ((HJ1.out _ HRj.out)).mono ?_
    rintro e wd ⟨rfl, b⟩
    have Swd := Lib.hid b.size
    have HB := Lib.hid (chain0 (w := w) (by repeat (first | with_reducible exact Below.refl _ _ | with_reducible exact HB.out | with_reducible apply Below.drew | with_reducible apply bdN | with_reducible refine Below.alloc ?_ (by first | exact Nat.le_refl _ | with_reducible exact HB.out.size | omega | (simp; done) | (simp; omega) | (have := HB.out.size; simp at *; omega)) _ | with_reducible refine Below.setCell ?_ (by first | exact Nat.le_refl _ | with_reducible exact HB.out.size | omega | (simp; done) | (simp; omega) | (have := HB.out.size; simp at *; omega)) _)) b)
    have HR := Lib.hid (Rd.below (by repeat (first | with_reducible exact HR.out | with_reducible apply Rd.drewN | with_reducible apply Rd.drew | with_reducible apply Rd.alloc)) b)
    have HRv := Lib.hid (Rd.below (by repeat (first | with_reducible exact HRv.out | with_reducible apply Rd.drewN | with_reducible apply Rd.drew | with_reducible apply Rd.alloc)) b)
    have HRj := Lib.hid (Rd.below (by repeat (first | with_reducible exact HRj.out | with_reducible apply Rd.drewN | with_reducible apply Rd.drew | with_reducible apply Rd.alloc)) b)
    clear b
    go_wp2_with fail
    refine ((HJ2.out _ HRj.out)).mono ?_
    rintro e we ⟨rfl, b⟩
    have Swe := Lib.hid b.size
    have HB := Lib.hid (chain0 (w := w) (by repeat (first | with_reducible exact Below.refl _ _ | with_reducible exact HB.out | with_reducible apply Below.drew | with_reducible apply bdN | with_reducible refine Below.alloc ?_ (by first | exact Nat.le_refl _ | with_reducible exact HB.out.size | omega | (simp; done) | (simp; omega) | (have := HB.out.size; simp at *; omega)) _ | with_reducible refine Below.setCell ?_ (by first | exact Nat.le_refl _ | with_reducible exact HB.out.size | omega | (simp; done) | (simp; omega) | (have := HB.out.size; simp at *; omega)) _)) b)
    have HR := Lib.hid (Rd.below (by repeat (first | with_reducible exact HR.out | with_reducible apply Rd.drewN | with_reducible apply Rd.drew | with_reducible apply Rd.alloc)) b)
    have HRv := Lib.hid (Rd.below (by repeat (first | with_reducible exact HRv.out | with_reducible apply Rd.drewN | with_reducible apply Rd.drew | with_reducible apply Rd.alloc)) b)
    have HRj := Lib.hid (Rd.below (by repeat (first | with_reducible exact HRj.out | with_reducible apply Rd.drewN | with_reducible apply Rd.drew | with_reducible apply Rd.alloc)) b)
    clear b
    go_wp2_with fail
    refine ((HD3.out _ HR.out)).mono ?_
    rintro e wf ⟨a, d, rfl, hx1, hx2, b⟩
    have Swf := Lib.hid b.size
    have HB := Lib.hid (chain0 (w := w) (by repeat (first | with_reducible exact Below.refl _ _ | with_reducible exact HB.out | with_reducible apply Below.drew | with_reducible apply bdN | with_reducible refine Below.alloc ?_ (by first | exact Nat.le_refl _ | with_reducible exact HB.out.size | omega | (simp; done) | (simp; omega) | (have := HB.out.size; simp at *; omega)) _ | with_reducible refine Below.setCell ?_ (by first | exact Nat.le_refl _ | with_reducible exact HB.out.size | omega | (simp; done) | (simp; omega) | (have := HB.out.size; simp at *; omega)) _)) b)
    have HR := Lib.hid (Rd.below (by repeat (first | with_reducible exact HR.out | with_reducible apply Rd.drewN | with_reducible apply Rd.drew | with_reducible apply Rd.alloc)) b)
    have HRv := Lib.hid (Rd.below (by repeat (first | with_reducible exact HRv.out | with_reducible apply Rd.drewN | with_reducible apply Rd.drew | with_reducible apply Rd.alloc)) b)
    clear b
    clear hx1 hx2
    have HA := Lib.hid (less_asymm a.toList d.toList)
    have HL1 := Lib.hid (fun w => less_impl a d w)
    have HL2 := Lib.hid (fun w => less_spec a d w)
    have HL3 := Lib.hid (fun w => less_impl d a w)
    obtain ⟨b1, hb1⟩ : ∃ b1, Op.bytesLess a.toList d.toList = b1 := ⟨_, rfl⟩
    obtain ⟨b2, hb2⟩ : ∃ b2, Op.bytesLess d.toList a.toList = b2 := ⟨_, rfl⟩
    rw [hb1] at HL1 HL2 HA
    rw [hb2] at HL3 HA
    clear hb1 hb2
    go_upto_region 9 with fail
    go_cut [78] (fun s wx => s = .bool false ∧ wx = wf)
    case first =>
      have h := HA.out
      cases b1
      · clear h
        go_wp2_with fail
        refine (HL1.out _).mono ?_
        rintro e w' ⟨rfl, rfl⟩
        go_wp2_with fail
        refine (HL2.out _).mono ?_
        rintro e w' ⟨rfl, rfl⟩
        go_wp2_with fail
        refine (HL1.out _).mono ?_
        rintro e w' ⟨rfl, rfl⟩
        go_wp2_with fail
        go_meet
        exact ⟨rfl, rfl⟩
      · have h2 := h rfl
        clear h
        subst h2
        go_wp2_with fail
        refine (HL1.out _).mono ?_
        rintro e w' ⟨rfl, rfl⟩
        go_wp2_with fail
        refine (HL2.out _).mono ?_
        rintro e w' ⟨rfl, rfl⟩
        go_wp2_with fail
        refine (HL1.out _).mono ?_
        rintro e w' ⟨rfl, rfl⟩
        go_wp2_with fail
        refine (HL3.out _).mono ?_
        rintro e w' ⟨rfl, rfl⟩
        go_wp2_with fail
        go_meet
        exact ⟨rfl, rfl⟩
    case rest =>
      obtain ⟨rfl, ew⟩ := hcut
      rw [ew]
      clear ew
      have HJ3 := Lib.hid (fun w h => impl_join P ⟨#[y]⟩ pv P.length cv w rfl (by have := HPs.out.1; omega) (fun x hx => HPs.out.2 x hx) (by have := HQ1.out; omega) h HCv.out)
      rw [HBk.out] at HJ3
      go_wp2_with fail
      refine ((HJ3.out _ HRv.out)).mono ?_
      rintro e wg ⟨rfl, b⟩
      have Swg := Lib.hid b.size
      have HB := Lib.hid (chain0 (w := w) (by repeat (first | with_reducible exact Below.refl _ _ | with_reducible exact HB.out | with_reducible apply Below.drew | with_reducible apply bdN | with_reducible refine Below.alloc ?_ (by first | exact Nat.le_refl _ | with_reducible exact HB.out.size | omega | (simp; done) | (simp; omega) | (have := HB.out.size; simp at *; omega)) _ | with_reducible refine Below.setCell ?_ (by first | exact Nat.le_refl _ | with_reducible exact HB.out.size | omega | (simp; done) | (simp; omega) | (have := HB.out.size; simp at *; omega)) _)) b)
      have HR := Lib.hid (Rd.below (by repeat (first | with_reducible exact HR.out | with_reducible apply Rd.drewN | with_reducible apply Rd.drew | with_reducible apply Rd.alloc)) b)
      have HRv := Lib.hid (Rd.below (by repeat (first | with_reducible exact HRv.out | with_reducible apply Rd.drewN | with_reducible apply Rd.drew | with_reducible apply Rd.alloc)) b)
      clear b
      go_wp2_with fail
      go_ret
      exact ⟨rfl, by repeat (first | with_reducible exact Below.refl _ _ | with_reducible exact HB.out | with_reducible apply Below.drew | with_reducible apply bdN | with_reducible refine Below.alloc ?_ (by first | exact Nat.le_refl _ | with_reducible exact HB.out.size | omega | (simp; done) | (simp; omega) | (have := HB.out.size; simp at *; omega)) _ | with_reducible refine Below.setCell ?_ (by first | exact Nat.le_refl _ | with_reducible exact HB.out.size | omega | (simp; done) | (simp; omega) | (have := HB.out.size; simp at *; omega)) _)⟩
  · have HI := Lib.hid (fun w => spl.impl_no s q w (by have := HS1.out; omega) (by have := HQ1.out; omega) (fun h => hq h.2))
    have hq2 : ((q.size : Int) != 1) = true := by simp; omega
    clear hq
    go_wp2_with fail
    refine ((HI.out _)).mono ?_
    rintro e wb ⟨v, rfl, hv, b⟩
    have Swb := Lib.hid b.size
    have HB := Lib.hid (chain0 (w := w) (by repeat (first | with_reducible exact Below.refl _ _ | with_reducible exact HB.out | with_reducible apply Below.drew | with_reducible apply bdN | with_reducible refine Below.alloc ?_ (by first | exact Nat.le_refl _ | with_reducible exact HB.out.size | omega | (simp; done) | (simp; omega) | (have := HB.out.size; simp at *; omega)) _ | with_reducible refine Below.setCell ?_ (by first | exact Nat.le_refl _ | with_reducible exact HB.out.size | omega | (simp; done) | (simp; omega) | (have := HB.out.size; simp at *; omega)) _)) b)
    have HR := Lib.hid (Rd.below (by repeat (first | with_reducible exact HR.out | with_reducible apply Rd.drewN | with_reducible apply Rd.drew | with_reducible apply Rd.alloc)) b)
    clear b
    have hv2 : OwnT wb wa.heap.size v [] := hv
    obtain ⟨pv, cv, rfl, -, -⟩ := hv2.form
    clear hv hv2
    go_wp2_with fail
    refine ((HD2.out _ HR.out)).mono ?_
    rintro e wc0 ⟨vj, L, mk, rfl, hj1, hj2, hj3, hj4, b⟩
    have Swc0 := Lib.hid b.size
    have HB := Lib.hid (chain0 (w := w) (by repeat (first | with_reducible exact Below.refl _ _ | with_reducible exact HB.out | with_reducible apply Below.drew | with_reducible apply bdN | with_reducible refine Below.alloc ?_ (by first | exact Nat.le_refl _ | with_reducible exact HB.out.size | omega | (simp; done) | (simp; omega) | (have := HB.out.size; simp at *; omega)) _ | with_reducible refine Below.setCell ?_ (by first | exact Nat.le_refl _ | with_reducible exact HB.out.size | omega | (simp; done) | (simp; omega) | (have := HB.out.size; simp at *; omega)) _)) b)
    have HR := Lib.hid (Rd.below (by repeat (first | with_reducible exact HR.out | with_reducible apply Rd.drewN | with_reducible apply Rd.drew | with_reducible apply Rd.alloc)) b)
    clear b
    obtain ⟨pj, cj, rfl, hcj, hrj⟩ := hj1.form
    have HRj := Lib.hid hrj
    clear hj1 hrj
    have HJ1 := Lib.hid (fun w h => impl_join L mk pj L.length cj w rfl (by omega) (fun x hx => Nat.le_trans (hj3 x hx) (by omega)) (by omega) h hcj)
    have HJ2 := Lib.hid (fun w h => spec_join L mk pj L.length cj w rfl (by omega) (fun x hx => Nat.le_trans (hj3 x hx) (by omega)) (by omega) h)
    obtain ⟨j, hjj⟩ : ∃ j, (jsR L mk).1 = j := ⟨_, rfl⟩
    obtain ⟨fine, hff⟩ : ∃ fine, (jsR L mk).2 = fine := ⟨_, rfl⟩
    rw [hjj, hff] at HJ1 HJ2
    obtain ⟨nl, hnl⟩ : ∃ nl, L.length = nl := ⟨_, rfl⟩
    rw [hnl] at HJ1 HJ2 ⊢
    clear hj2 hj3 hj4 hcj hjj hff hnl
    go_wp2_with fail
    refine ((HJ1.out _ HRj.out)).mono ?_
    rintro e wd ⟨rfl, b⟩
    have Swd := Lib.hid b.size
    have HB := Lib.hid (chain0 (w := w) (by repeat (first | with_reducible exact Below.refl _ _ | with_reducible exact HB.out | with_reducible apply Below.drew | with_reducible apply bdN | with_reducible refine Below.alloc ?_ (by first | exact Nat.le_refl _ | with_reducible exact HB.out.size | omega | (simp; done) | (simp; omega) | (have := HB.out.size; simp at *; omega)) _ | with_reducible refine Below.setCell ?_ (by first | exact Nat.le_refl _ | with_reducible exact HB.out.size | omega | (simp; done) | (simp; omega) | (have := HB.out.size; simp at *; omega)) _)) b)
    have HR := Lib.hid (Rd.below (by repeat (first | with_reducible exact HR.out | with_reducible apply Rd.drewN | with_reducible apply Rd.drew | with_reducible apply Rd.alloc)) b)
    have HRj := Lib.hid (Rd.below (by repeat (first | with_reducible exact HRj.out | with_reducible apply Rd.drewN | with_reducible apply Rd.drew | with_reducible apply Rd.alloc)) b)
    clear b
    go_wp2_with fail
    refine ((HJ2.out _ HRj.out)).mono ?_
    rintro e we ⟨rfl, b⟩
    have Swe := Lib.hid b.size
    have HB := Lib.hid (chain0 (w := w) (by repeat (first | with_reducible exact Below.refl _ _ | with_reducible exact HB.out | with_reducible apply Below.drew | with_reducible apply bdN | with_reducible refine Below.alloc ?_ (by first | exact Nat.le_refl _ | with_reducible exact HB.out.size | omega | (simp; done) | (simp; omega) | (have := HB.out.size; simp at *; omega)) _ | with_reducible refine Below.setCell ?_ (by first | exact Nat.le_refl _ | with_reducible exact HB.out.size | omega | (simp; done) | (simp; omega) | (have := HB.out.size; simp at *; omega)) _)) b)
    have HR := Lib.hid (Rd.below (by repeat (first | with_reducible exact HR.out | with_reducible apply Rd.drewN | with_reducible apply Rd.drew | with_reducible apply Rd.alloc)) b)
    have HRj := Lib.hid (Rd.below (by repeat (first | with_reducible exact HRj.out | with_reducible apply Rd.drewN | with_reducible apply Rd.drew | with_reducible apply Rd.alloc)) b)
    clear b
    go_wp2_with fail
    refine ((HD3.out _ HR.out)).mono ?_
    rintro e wf ⟨a, d, rfl, hx1, hx2, b⟩
    have Swf := Lib.hid b.size
    have HB := Lib.hid (chain0 (w := w) (by repeat (first | with_reducible exact Below.refl _ _ | with_reducible exact HB.out | with_reducible apply Below.drew | with_reducible apply bdN | with_reducible refine Below.alloc ?_ (by first | exact Nat.le_refl _ | with_reducible exact HB.out.size | omega | (simp; done) | (simp; omega) | (have := HB.out.size; simp at *; omega)) _ | with_reducible refine Below.setCell ?_ (by first | exact Nat.le_refl _ | with_reducible exact HB.out.size | omega | (simp; done) | (simp; omega) | (have := HB.out.size; simp at *; omega)) _)) b)
    have HR := Lib.hid (Rd.below (by repeat (first | with_reducible exact HR.out | with_reducible apply Rd.drewN | with_reducible apply Rd.drew | with_reducible apply Rd.alloc)) b)
    clear b
    clear hx1 hx2
    have HA := Lib.hid (less_asymm a.toList d.toList)
    have HL1 := Lib.hid (fun w => less_impl a d w)
    have HL2 := Lib.hid (fun w => less_spec a d w)
    have HL3 := Lib.hid (fun w => less_impl d a w)
    obtain ⟨b1, hb1⟩ : ∃ b1, Op.bytesLess a.toList d.toList = b1 := ⟨_, rfl⟩
    obtain ⟨b2, hb2⟩ : ∃ b2, Op.bytesLess d.toList a.toList = b2 := ⟨_, rfl⟩
    rw [hb1] at HL1 HL2 HA
    rw [hb2] at HL3 HA
    clear hb1 hb2
    go_upto_region 9 with fail
    go_cut [78] (fun s wx => s = .bool false ∧ wx = wf)
    case first =>
      have h := HA.out
      cases b1
      · clear h
        go_wp2_with fail
        refine (HL1.out _).mono ?_
        rintro e w' ⟨rfl, rfl⟩
        go_wp2_with fail
        refine (HL2.out _).mono ?_
        rintro e w' ⟨rfl, rfl⟩
        go_wp2_with fail
        refine (HL1.out _).mono ?_
        rintro e w' ⟨rfl, rfl⟩
        go_wp2_with fail
        go_meet
        exact ⟨rfl, rfl⟩
      · have h2 := h rfl
        clear h
        subst h2
        go_wp2_with fail
        refine (HL1.out _).mono ?_
        rintro e w' ⟨rfl, rfl⟩
        go_wp2_with fail
        refine (HL2.out _).mono ?_
        rintro e w' ⟨rfl, rfl⟩
        go_wp2_with fail
        refine (HL1.out _).mono ?_
        rintro e w' ⟨rfl, rfl⟩
        go_wp2_with fail
        refine (HL3.out _).mono ?_
        rintro e w' ⟨rfl, rfl⟩
        go_wp2_with fail
        go_meet
        exact ⟨rfl, rfl⟩
    case rest =>
      obtain ⟨rfl, ew⟩ := hcut
      rw [ew]
      clear ew
      go_wp2_with fail
      go_ret
      exact ⟨rfl, by repeat (first | with_reducible exact Below.refl _ _ | with_reducible exact HB.out | with_reducible apply Below.drew | with_reducible apply bdN | with_reducible refine Below.alloc ?_ (by first | exact Nat.le_refl _ | with_reducible exact HB.out.size | omega | (simp; done) | (simp; omega) | (have := HB.out.size; simp at *; omega)) _ | with_reducible refine Below.setCell ?_ (by first | exact Nat.le_refl _ | with_reducible exact HB.out.size | omega | (simp; done) | (simp; omega) | (have := HB.out.size; simp at *; omega)) _)⟩
end Go.Proofs.Ytcjmlddpjbneiaa.draw

