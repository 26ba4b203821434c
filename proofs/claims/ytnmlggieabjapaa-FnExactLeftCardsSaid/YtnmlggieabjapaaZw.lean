/- LeftCards: the program's and the model's. -/
import Derived.Test.YtnmlggieabjapaaZv
namespace Go.Proofs.Ytnmlggieabjapaa.parting
open Go.RowKit
open cards maps
set_option linter.unusedVariables false

set_option maxRecDepth 100000 in
set_option maxHeartbeats 4000000 in
theorem impl_left (l : List Cd) (ls : List A3) (p q : Option Addr) (n cp k cl : Nat) (w : World) (hn : l.length = n) (hk : ls.length = k) (hl : n ≤ 1000000000) (hkl : k ≤ 1000000000) (hr : Rd w p (flat l)) (hq : Rd w q (A3.flat ls)) (hc : k ≤ cl) (hw : ∀ x ∈ ls, wf3 x) :
    Calls Try.prog 48 #[.slice p n cp, .slice q k cl] w fun e w' => ∃ u, e = .returned (.tuple #[u, .bool (leftR l ls).2]) ∧ Own w' w.heap.size u (leftR l ls).1 ∧ Below w.heap.size w w' := by
  have HN := Lib.hid hn
  have HK := Lib.hid hk
  have HR := Lib.hid hr
  have HQ := Lib.hid hq
  have HR0 := Lib.hid hr
  have HQ0 := Lib.hid hq
  have HW := Lib.hid hw
  clear hn hk hr hq hw
  go_enter Try.func48, Try.ntmps48
  go_wp2_with fail
  refine (impl_lin l p n cp _ HN.out hl (by repeat (first | with_reducible exact HR.out | with_reducible apply Rd.drewN | with_reducible apply Rd.drew | with_reducible apply Rd.alloc))).mono ?_
  rintro e w1 ⟨u1, rfl, hu, b⟩
  have HU := Lib.hid hu
  have Sw1 := Lib.hid b.size
  have HB := Lib.hid (chain0 (w := w) (by repeat (first | with_reducible exact Below.refl _ _ | with_reducible exact HB.out | with_reducible apply Below.drew | with_reducible apply bdN | with_reducible refine Below.alloc ?_ (by first | exact Nat.le_refl _ | with_reducible exact HB.out.size | omega | (simp; done) | (simp; omega) | (have := HB.out.size; simp at *; omega)) _ | with_reducible refine Below.setCell ?_ (by first | exact Nat.le_refl _ | with_reducible exact HB.out.size | omega | (simp; done) | (simp; omega) | (have := HB.out.size; simp at *; omega)) _)) b)
  have HR := Lib.hid (Rd.below (by repeat (first | with_reducible exact HR.out | with_reducible apply Rd.drewN | with_reducible apply Rd.drew | with_reducible apply Rd.alloc)) b)
  have HQ := Lib.hid (Rd.below (by repeat (first | with_reducible exact HQ.out | with_reducible apply Rd.drewN | with_reducible apply Rd.drew | with_reducible apply Rd.alloc)) b)
  clear b
  clear hu
  cases hh : handB l
  · have HT := Lib.hid (leftR_no (l := l) (ls := ls) (by simp [hh]))
    have hl2 : (linR l).2 = false := by unfold linR; rw [if_neg (by simp [hh])]
    rw [hl2]
    clear hl2 hh
    go_wp2_with fail
    go_ret2
    exact ⟨_, ret_two (by rw [HT.out]), by rw [HT.out]; exact Own.empty _ _ HB.out.size, by repeat (first | with_reducible exact Below.refl _ _ | with_reducible exact HB.out | with_reducible apply Below.drew | with_reducible apply bdN | with_reducible refine Below.alloc ?_ (by first | exact Nat.le_refl _ | with_reducible exact HB.out.size | omega | (simp; done) | (simp; omega) | (have := HB.out.size; simp at *; omega)) _ | with_reducible refine Below.setCell ?_ (by first | exact Nat.le_refl _ | with_reducible exact HB.out.size | omega | (simp; done) | (simp; omega) | (have := HB.out.size; simp at *; omega)) _)⟩
  · have hlr : linR l = (allL l n, true) := by unfold linR; rw [if_pos hh, HN.out]
    have HH := handB_true.1 hh
    have h27 : n ≤ 27 := by have := HH.1; have := HN.out; omega
    have hlen := lines_len HH
    have HWa := Lib.hid (lines_wf HN.out HH.2.2 HH.2.1 h27)
    have hpa : pickB (allL l l.length) ls = (am (allL l n) ls []).isEmpty := by rw [HN.out, pick_am (lines_asc l n)]
    have hT1 := fun h => leftR_yes (l := l) (ls := ls) hh h
    have hT0 := fun (h : pickB (allL l l.length) ls = false) => leftR_no (l := l) (ls := ls) (by simp [h])
    rw [hpa] at hT1 hT0
    rw [HN.out] at hlen hT1
    rw [hlr] at HU ⊢
    obtain ⟨A, hA⟩ : ∃ A, allL l n = A := ⟨_, rfl⟩
    rw [hA] at HU hlen HWa hT1 hT0
    obtain ⟨pa, ca, rfl, _, ra, _⟩ := HU.out.form
    have HA := Lib.hid ra
    replace hlen := Lib.hid hlen
    obtain ⟨m, hm⟩ : ∃ m, A.length = m := ⟨_, rfl⟩
    have HM := Lib.hid hm
    rw [hm]
    have HP := are_picked A ls pa q m ca k cl w1 HM.out HK.out (by have := hlen.out; have := HM.out; omega) hkl hc HA.out HQ.out HWa.out HW.out
    obtain ⟨ok, hok⟩ : ∃ ok, (am A ls []).isEmpty = ok := ⟨_, rfl⟩
    rw [hok] at HP hT1 hT0
    replace HP := Lib.hid HP
    clear hlr hh hA HH ra HU hm hpa hok
    cases ok
    · have HT := Lib.hid (hT0 rfl)
      clear hT0 hT1
      go_wp2_with fail
      refine (HP.out).mono ?_
      rintro e w2 ⟨rfl, b⟩
      have Sw2 := Lib.hid b.size
      have HB := Lib.hid (chain0 (w := w) (by repeat (first | with_reducible exact Below.refl _ _ | with_reducible exact HB.out | with_reducible apply Below.drew | with_reducible apply bdN | with_reducible refine Below.alloc ?_ (by first | exact Nat.le_refl _ | with_reducible exact HB.out.size | omega | (simp; done) | (simp; omega) | (have := HB.out.size; simp at *; omega)) _ | with_reducible refine Below.setCell ?_ (by first | exact Nat.le_refl _ | with_reducible exact HB.out.size | omega | (simp; done) | (simp; omega) | (have := HB.out.size; simp at *; omega)) _)) b)
      have HR := Lib.hid (Rd.below (by repeat (first | with_reducible exact HR.out | with_reducible apply Rd.drewN | with_reducible apply Rd.drew | with_reducible apply Rd.alloc)) b)
      have HQ := Lib.hid (Rd.below (by repeat (first | with_reducible exact HQ.out | with_reducible apply Rd.drewN | with_reducible apply Rd.drew | with_reducible apply Rd.alloc)) b)
      clear b
      go_wp2_with fail
      go_ret2
      exact ⟨_, ret_two (by rw [HT.out]), by rw [HT.out]; exact Own.empty _ _ HB.out.size, by repeat (first | with_reducible exact Below.refl _ _ | with_reducible exact HB.out | with_reducible apply Below.drew | with_reducible apply bdN | with_reducible refine Below.alloc ?_ (by first | exact Nat.le_refl _ | with_reducible exact HB.out.size | omega | (simp; done) | (simp; omega) | (have := HB.out.size; simp at *; omega)) _ | with_reducible refine Below.setCell ?_ (by first | exact Nat.le_refl _ | with_reducible exact HB.out.size | omega | (simp; done) | (simp; omega) | (have := HB.out.size; simp at *; omega)) _)⟩
    · have HT := Lib.hid (hT1 rfl)
      clear hT0 hT1
      go_wp2_with fail
      refine (HP.out).mono ?_
      rintro e w2 ⟨rfl, b⟩
      have Sw2 := Lib.hid b.size
      have HB := Lib.hid (chain0 (w := w) (by repeat (first | with_reducible exact Below.refl _ _ | with_reducible exact HB.out | with_reducible apply Below.drew | with_reducible apply bdN | with_reducible refine Below.alloc ?_ (by first | exact Nat.le_refl _ | with_reducible exact HB.out.size | omega | (simp; done) | (simp; omega) | (have := HB.out.size; simp at *; omega)) _ | with_reducible refine Below.setCell ?_ (by first | exact Nat.le_refl _ | with_reducible exact HB.out.size | omega | (simp; done) | (simp; omega) | (have := HB.out.size; simp at *; omega)) _)) b)
      have HR := Lib.hid (Rd.below (by repeat (first | with_reducible exact HR.out | with_reducible apply Rd.drewN | with_reducible apply Rd.drew | with_reducible apply Rd.alloc)) b)
      have HQ := Lib.hid (Rd.below (by repeat (first | with_reducible exact HQ.out | with_reducible apply Rd.drewN | with_reducible apply Rd.drew | with_reducible apply Rd.alloc)) b)
      clear b
      have HSz := Lib.hid HB.out.size
      go_wp2_with fail
      go_loopw [8, 9, 10, 28] (fun v _ _ i wr => ∃ j : Nat, j ≤ n ∧ i = .int .i64 j ∧ Hid (Own wr w.heap.size v (lft l ls j)) ∧ Hid (Below w.heap.size w wr)) (fun _ _ _ i _ => n - (intOf i).toNat)
      case atStart => exact ⟨0, Nat.zero_le _, rfl, Lib.hid (Own.empty _ _ HSz.out), Lib.hid (HB.out.alloc HSz.out _)⟩
      case round =>
        clear HB HR HQ HSz
        obtain ⟨j, hj, rfl, HO, HB⟩ := hrel
        have HSz := Lib.hid HB.out.size
        by_cases hlt : j < n
        · obtain ⟨b, o, x, rfl, hb, hx, c0, c1, c2, c3⟩ := (HR0.out.below HB.out).card (k := j) (by rw [HN.out]; exact hlt)
          have HX := Lib.hid hx
          have m0 : (0 : Int) ≤ (j : Int) := by omega
          have m1 : (j : Int) < (n : Int) := by omega
          have HLn := Lib.hid (lft_len l ls j)
          have HC := fun w' (hw : Rd w' q (A3.flat ls)) => is_covered ls (j : Int) q k cl w' HK.out hkl hw
          obtain ⟨cv, hcv⟩ : ∃ cv, cov ls (j : Int) = cv := ⟨_, rfl⟩
          rw [hcv] at HC
          have HCv := Lib.hid hcv
          replace HC := Lib.hid HC
          clear hx hcv
          have HO1 := Lib.hid (HO.out.alloc (Cd.obj x))
          have HB1 : Hid (Below w.heap.size w (wr.alloc (Cd.obj x))) := Lib.hid (HB.out.alloc HSz.out _)
          have HK1 : Hid (Box (wr.alloc (Cd.obj x)) wr.heap.size x) := Lib.hid (Box.newAt rfl rfl)
          go_wp2_with fail
          refine (HC.out _ (HQ0.out.below HB1.out)).mono ?_
          rintro e w4 ⟨rfl, b4⟩
          have HO2 := Lib.hid (HO1.out.below b4)
          have HK2 := Lib.hid (HK1.out.below b4)
          have HB2 : Hid (Below w.heap.size w w4) := Lib.hid (chain0 HB1.out b4)
          have HSz2 := Lib.hid HB2.out.size
          obtain ⟨d0, d1, d2, d3⟩ := HK2.out.cell
          clear b4 HO HO1 HB1 HK1 c0 c1 c2 c3
          cases cv
          · have HG := Lib.hid (lft_no HX.out HCv.out)
            go_wp2_with (at_builtin; refine append_cd rfl (.tmp 37) (.tmp 39) rfl w.heap.size _ (lft l ls j) x _ _ rfl rfl rfl HO2.out (by have := HLn.out; omega) HSz2.out ?_; intro v1 w5 hO1 hB1)
            rw [← HG.out] at hO1
            go_roundw
            case rel => exact ⟨j + 1, by omega, by go_num, hO1, HB2.out.trans hB1⟩
            case measure => simp [intOf]; omega
          · have HG := Lib.hid (lft_yes (l := l) HCv.out)
            go_wp2_with fail
            go_roundw
            case rel => exact ⟨j + 1, by omega, by go_num, by rw [HG.out]; exact HO2, HB2⟩
            case measure => simp [intOf]; omega
        · obtain rfl : j = n := by omega
          go_wp2_with fail
          go_ret2
          exact ⟨_, ret_two (by rw [HT.out]), by rw [HT.out]; exact HO.out, HB.out⟩

set_option maxRecDepth 100000 in
set_option maxHeartbeats 4000000 in
theorem spec_left (l : List Cd) (ls : List A3) (p q : Option Addr) (n cp k cl : Nat) (w : World) (hn : l.length = n) (hk : ls.length = k) (hl : n ≤ 1000000000) (hkl : k ≤ 100000000) (hr : Rd w p (flat l)) (hq : Rd w q (A3.flat ls)) (hc : k ≤ cl) (hw : ∀ x ∈ ls, wf3 x) :
    Calls Try.prog 47 #[.slice p n cp, .slice q k cl] w fun e w' => ∃ u, e = .returned (.tuple #[u, .bool (leftR l ls).2]) ∧ Own w' w.heap.size u (leftR l ls).1 ∧ Below w.heap.size w w' := by
  have HN := Lib.hid hn
  have HK := Lib.hid hk
  have HR := Lib.hid hr
  have HQ := Lib.hid hq
  have HR0 := Lib.hid hr
  have HQ0 := Lib.hid hq
  have HW := Lib.hid hw
  have HO0 := Lib.hid (Own.empty w w.heap.size (Nat.le_refl _))
  clear hn hk hr hq hw
  go_enter Try.func47, Try.ntmps47
  go_wp2_with fail
  obtain ⟨w0, ew, b⟩ : ∃ w1 : World, w1 = (w.alloc (.cells #[] 48)) ∧ Below ((w.alloc (.cells #[] 48))).heap.size ((w.alloc (.cells #[] 48))) w1 := ⟨_, rfl, Below.refl _ _⟩
  rw [← ew]
  clear ew
  have Sw0 := Lib.hid b.size
  have HB := Lib.hid (chain0 (w := w) (by repeat (first | with_reducible exact Below.refl _ _ | with_reducible exact HB.out | with_reducible apply Below.drew | with_reducible apply bdN | with_reducible refine Below.alloc ?_ (by first | exact Nat.le_refl _ | with_reducible exact HB.out.size | omega | (simp; done) | (simp; omega) | (have := HB.out.size; simp at *; omega)) _ | with_reducible refine Below.setCell ?_ (by first | exact Nat.le_refl _ | with_reducible exact HB.out.size | omega | (simp; done) | (simp; omega) | (have := HB.out.size; simp at *; omega)) _)) b)
  have HR := Lib.hid (Rd.below (by repeat (first | with_reducible exact HR.out | with_reducible apply Rd.drewN | with_reducible apply Rd.drew | with_reducible apply Rd.alloc)) b)
  have HQ := Lib.hid (Rd.below (by repeat (first | with_reducible exact HQ.out | with_reducible apply Rd.drewN | with_reducible apply Rd.drew | with_reducible apply Rd.alloc)) b)
  have HO0 := Lib.hid (Own.below (by repeat (first | with_reducible exact HO0.out | with_reducible apply Own.drewN | with_reducible apply Own.drew | with_reducible apply Own.alloc)) b)
  clear b
  go_wp2_with fail
  refine ((l2_hand l p n cp _ HN.out hl (by repeat (first | with_reducible exact HR.out | with_reducible apply Rd.drewN | with_reducible apply Rd.drew | with_reducible apply Rd.alloc)))).mono ?_
  rintro e w1 ⟨rfl, b⟩
  have Sw1 := Lib.hid b.size
  have HB := Lib.hid (chain0 (w := w) (by repeat (first | with_reducible exact Below.refl _ _ | with_reducible exact HB.out | with_reducible apply Below.drew | with_reducible apply bdN | with_reducible refine Below.alloc ?_ (by first | exact Nat.le_refl _ | with_reducible exact HB.out.size | omega | (simp; done) | (simp; omega) | (have := HB.out.size; simp at *; omega)) _ | with_reducible refine Below.setCell ?_ (by first | exact Nat.le_refl _ | with_reducible exact HB.out.size | omega | (simp; done) | (simp; omega) | (have := HB.out.size; simp at *; omega)) _)) b)
  have HR := Lib.hid (Rd.below (by repeat (first | with_reducible exact HR.out | with_reducible apply Rd.drewN | with_reducible apply Rd.drew | with_reducible apply Rd.alloc)) b)
  have HQ := Lib.hid (Rd.below (by repeat (first | with_reducible exact HQ.out | with_reducible apply Rd.drewN | with_reducible apply Rd.drew | with_reducible apply Rd.alloc)) b)
  have HO0 := Lib.hid (Own.below (by repeat (first | with_reducible exact HO0.out | with_reducible apply Own.drewN | with_reducible apply Own.drew | with_reducible apply Own.alloc)) b)
  clear b
  cases hh : handB l
  · have HT := Lib.hid (leftR_no (l := l) (ls := ls) (by simp [hh]))
    clear hh
    go_wp2_with fail
    go_ret2
    exact ⟨_, ret_two (by rw [HT.out]), by rw [HT.out]; exact HO0.out, by repeat (first | with_reducible exact Below.refl _ _ | with_reducible exact HB.out | with_reducible apply Below.drew | with_reducible apply bdN | with_reducible refine Below.alloc ?_ (by first | exact Nat.le_refl _ | with_reducible exact HB.out.size | omega | (simp; done) | (simp; omega) | (have := HB.out.size; simp at *; omega)) _ | with_reducible refine Below.setCell ?_ (by first | exact Nat.le_refl _ | with_reducible exact HB.out.size | omega | (simp; done) | (simp; omega) | (have := HB.out.size; simp at *; omega)) _)⟩
  · have HH := handB_true.1 hh
    have h27 : n ≤ 27 := by have := HH.1; have := HN.out; omega
    have hlen := lines_len HH
    have hT1 := fun h => leftR_yes (l := l) (ls := ls) hh h
    have hT0 := fun (h : pickB (allL l l.length) ls = false) => leftR_no (l := l) (ls := ls) (by simp [h])
    rw [HN.out] at hlen hT1 hT0
    have HP := l7_picking l (allL l n) ls p q n cp k cl w1 HN.out h27 HR.out HH.2.1 HH.2.2 rfl HK.out (by omega) hc HQ.out (by omega) (lines_wf HN.out HH.2.2 HH.2.1 h27) HW.out
    obtain ⟨ok, hok⟩ : ∃ ok, pickB (allL l n) ls = ok := ⟨_, rfl⟩
    rw [hok] at HP hT1 hT0
    replace HP := Lib.hid HP
    clear hh HH hlen hok
    cases ok
    · have HT := Lib.hid (hT0 rfl)
      clear hT0 hT1
      go_wp2_with fail
      refine (HP.out).mono ?_
      rintro e w2 ⟨rfl, b⟩
      have Sw2 := Lib.hid b.size
      have HB := Lib.hid (chain0 (w := w) (by repeat (first | with_reducible exact Below.refl _ _ | with_reducible exact HB.out | with_reducible apply Below.drew | with_reducible apply bdN | with_reducible refine Below.alloc ?_ (by first | exact Nat.le_refl _ | with_reducible exact HB.out.size | omega | (simp; done) | (simp; omega) | (have := HB.out.size; simp at *; omega)) _ | with_reducible refine Below.setCell ?_ (by first | exact Nat.le_refl _ | with_reducible exact HB.out.size | omega | (simp; done) | (simp; omega) | (have := HB.out.size; simp at *; omega)) _)) b)
      have HR := Lib.hid (Rd.below (by repeat (first | with_reducible exact HR.out | with_reducible apply Rd.drewN | with_reducible apply Rd.drew | with_reducible apply Rd.alloc)) b)
      have HQ := Lib.hid (Rd.below (by repeat (first | with_reducible exact HQ.out | with_reducible apply Rd.drewN | with_reducible apply Rd.drew | with_reducible apply Rd.alloc)) b)
      have HO0 := Lib.hid (Own.below (by repeat (first | with_reducible exact HO0.out | with_reducible apply Own.drewN | with_reducible apply Own.drew | with_reducible apply Own.alloc)) b)
      clear b
      go_wp2_with fail
      go_ret2
      exact ⟨_, ret_two (by rw [HT.out]), by rw [HT.out]; exact HO0.out, by repeat (first | with_reducible exact Below.refl _ _ | with_reducible exact HB.out | with_reducible apply Below.drew | with_reducible apply bdN | with_reducible refine Below.alloc ?_ (by first | exact Nat.le_refl _ | with_reducible exact HB.out.size | omega | (simp; done) | (simp; omega) | (have := HB.out.size; simp at *; omega)) _ | with_reducible refine Below.setCell ?_ (by first | exact Nat.le_refl _ | with_reducible exact HB.out.size | omega | (simp; done) | (simp; omega) | (have := HB.out.size; simp at *; omega)) _)⟩
    · have HT := Lib.hid (hT1 rfl)
      clear hT0 hT1
      go_wp2_with fail
      refine (HP.out).mono ?_
      rintro e w2 ⟨rfl, b⟩
      have Sw2 := Lib.hid b.size
      have HB := Lib.hid (chain0 (w := w) (by repeat (first | with_reducible exact Below.refl _ _ | with_reducible exact HB.out | with_reducible apply Below.drew | with_reducible apply bdN | with_reducible refine Below.alloc ?_ (by first | exact Nat.le_refl _ | with_reducible exact HB.out.size | omega | (simp; done) | (simp; omega) | (have := HB.out.size; simp at *; omega)) _ | with_reducible refine Below.setCell ?_ (by first | exact Nat.le_refl _ | with_reducible exact HB.out.size | omega | (simp; done) | (simp; omega) | (have := HB.out.size; simp at *; omega)) _)) b)
      have HR := Lib.hid (Rd.below (by repeat (first | with_reducible exact HR.out | with_reducible apply Rd.drewN | with_reducible apply Rd.drew | with_reducible apply Rd.alloc)) b)
      have HQ := Lib.hid (Rd.below (by repeat (first | with_reducible exact HQ.out | with_reducible apply Rd.drewN | with_reducible apply Rd.drew | with_reducible apply Rd.alloc)) b)
      have HO0 := Lib.hid (Own.below (by repeat (first | with_reducible exact HO0.out | with_reducible apply Own.drewN | with_reducible apply Own.drew | with_reducible apply Own.alloc)) b)
      clear b
      have HSz := Lib.hid HB.out.size
      go_wp2_with fail
      go_loopw [6, 7] (fun v i wr => ∃ j : Nat, j ≤ n ∧ i = .int .i64 j ∧ Hid (Own wr w.heap.size v (lft l ls j)) ∧ Hid (Below w.heap.size w wr)) (fun _ i _ => n - (intOf i).toNat)
      case atStart => exact ⟨0, Nat.zero_le _, rfl, HO0, HB⟩
      case round =>
        clear HB HR HQ HSz HO0
        obtain ⟨j, hj, rfl, HO, HB⟩ := hrel
        have HSz := Lib.hid HB.out.size
        by_cases hlt : j < n
        · obtain ⟨b, o, x, rfl, hb, hx, c0, c1, c2, c3⟩ := (HR0.out.below HB.out).card (k := j) (by rw [HN.out]; exact hlt)
          have HX := Lib.hid hx
          have m0 : (0 : Int) ≤ (j : Int) := by omega
          have m1 : (j : Int) < (n : Int) := by omega
          have HLn := Lib.hid (lft_len l ls j)
          have HC := Lib.hid (l7_at ls (j : Int) q k cl wr HK.out hkl (HQ0.out.below HB.out))
          have hcc := cov_cnt ls (j : Int)
          have hwl := withP_len ls (j : Int)
          rw [HK.out] at hwl
          obtain ⟨z, hz⟩ : ∃ z, (withP ls (j : Int)).length = z := ⟨_, rfl⟩
          rw [hz] at hcc hwl
          have HZ := Lib.hid hz
          obtain ⟨cv, hcv⟩ : ∃ cv, cov ls (j : Int) = cv := ⟨_, rfl⟩
          rw [hcv] at hcc
          have HCv := Lib.hid hcv
          replace hcc := Lib.hid hcc
          clear hx hcv hz
          go_wp2_with fail
          refine (HC.out).mono ?_
          rintro e w4 ⟨u4, rfl, ho4, b4⟩
          obtain ⟨p4, c4, rfl, _, _, _⟩ := ho4.form
          rw [HZ.out]
          have HO2 := Lib.hid (HO.out.below b4)
          have HB2 : Hid (Below w.heap.size w w4) := Lib.hid (chain0 HB.out b4)
          have HSz2 := Lib.hid HB2.out.size
          have d0 := (b4.cell (p := ⟨b, _, none⟩) hb).trans c0
          have d1 := (b4.cell (p := ⟨b, _, none⟩) hb).trans c1
          have d2 := (b4.cell (p := ⟨b, _, none⟩) hb).trans c2
          have d3 := (b4.cell (p := ⟨b, _, none⟩) hb).trans c3
          clear b4 HO c0 c1 c2 c3 ho4
          cases cv
          · have HG := Lib.hid (lft_no HX.out HCv.out)
            have hd : ((z : Int) == 0) = true := by have := of_decide_eq_true (hcc.out.trans rfl); simp [this]
            go_wp2_with (at_builtin; refine append_cd rfl (.tmp 30) (.tmp 35) rfl w.heap.size _ (lft l ls j) x _ _ rfl rfl rfl HO2.out (by have := HLn.out; omega) HSz2.out ?_; intro v1 w5 hO1 hB1)
            rw [← HG.out] at hO1
            go_roundw
            case rel => exact ⟨j + 1, by omega, by go_num, hO1, HB2.out.trans hB1⟩
            case measure => simp [intOf]; omega
          · have HG := Lib.hid (lft_yes (l := l) HCv.out)
            have hd : ((z : Int) == 0) = false := by have := of_decide_eq_false (hcc.out.trans rfl); exact beq_eq_false_iff_ne.2 (by omega)
            go_wp2_with fail
            go_roundw
            case rel => exact ⟨j + 1, by omega, by go_num, by rw [HG.out]; exact HO2, HB2⟩
            case measure => simp [intOf]; omega
        · obtain rfl : j = n := by omega
          go_wp2_with fail
          go_ret2
          exact ⟨_, ret_two (by rw [HT.out]), by rw [HT.out]; exact HO.out, HB.out⟩
end Go.Proofs.Ytnmlggieabjapaa.parting
