/- Is a Deal valid? The model. -/
import Derived.Test.YtjanphcfflahkaaQo
namespace Go.Proofs.Ytjanphcfflahkaa.deal
open Go.RowKit
open cards
set_option linter.unusedVariables false

set_option maxRecDepth 100000 in
set_option maxHeartbeats 4000000 in
theorem l4_deal (s nx : Int) (l : List Cd) (p : Option Addr) (n cp : Nat) (w : World) (hn : l.length = n) (hl : n ≤ 1000000000) (hcp : n ≤ cp) (hr : Rd w p (flat l)) (hw : ∀ x ∈ l, wfc x) :
    Calls Try.prog 103 #[dval s nx (.slice p n cp)] w fun e w' => e = .returned (.bool (Dl.mk s nx l).ok) ∧ Below w.heap.size w w' := by
  have HN := Lib.hid hn
  have HR := Lib.hid hr
  have HR0 := Lib.hid hr
  have HW := Lib.hid hw
  clear hn hr hw
  go_enter Try.func103, Try.ntmps103
  go_wp2_with fail
  refine ((l4_seed s _)).mono ?_
  rintro e w1 ⟨rfl, b⟩
  have Sw1 := Lib.hid b.size
  have HB := Lib.hid (chain0 (w := w) (by repeat (first | with_reducible exact Below.refl _ _ | with_reducible exact HB.out | with_reducible apply Below.drew | with_reducible apply bdN | with_reducible refine Below.alloc ?_ (by first | exact Nat.le_refl _ | with_reducible exact HB.out.size | omega | (simp; done) | (simp; omega) | (have := HB.out.size; simp at *; omega)) _ | with_reducible refine Below.setCell ?_ (by first | exact Nat.le_refl _ | with_reducible exact HB.out.size | omega | (simp; done) | (simp; omega) | (have := HB.out.size; simp at *; omega)) _)) b)
  have HR := Lib.hid (Rd.below (by repeat (first | with_reducible exact HR.out | with_reducible apply Rd.drewN | with_reducible apply Rd.drew | with_reducible apply Rd.alloc)) b)
  have K0 : Hid (DBox _ (w.heap.size) (⟨49, s, nx, .slice p n cp⟩)) := Lib.hid (DBox.below (by repeat (first | with_reducible exact K0.out | with_reducible apply DBox.drewN | with_reducible apply DBox.drew | (with_reducible refine DBox.newAt ?_ ?_ <;> first | (simp; done) | rfl) | with_reducible apply DBox.alloc)) b)
  try clear k0a k0b k0c k0d k0z
  have k0z := K0.out.lt
  obtain ⟨k0a, k0b, k0c, k0d⟩ := K0.out.cell
  clear b
  cases hs : isSd s
  · have HT := Lib.hid (ok_seed (d := ⟨s, nx, l⟩) hs)
    go_wp2_with fail
    go_ret
    exact ⟨ret_bool HT.out.symm, by repeat (first | with_reducible exact Below.refl _ _ | with_reducible exact HB.out | with_reducible apply Below.drew | with_reducible apply bdN | with_reducible refine Below.alloc ?_ (by first | exact Nat.le_refl _ | with_reducible exact HB.out.size | omega | (simp; done) | (simp; omega) | (have := HB.out.size; simp at *; omega)) _ | with_reducible refine Below.setCell ?_ (by first | exact Nat.le_refl _ | with_reducible exact HB.out.size | omega | (simp; done) | (simp; omega) | (have := HB.out.size; simp at *; omega)) _)⟩
  · go_wp2_with fail
    refine ((l1_in nx 0 81 _)).mono ?_
    rintro e w2 ⟨rfl, b⟩
    have Sw2 := Lib.hid b.size
    have HB := Lib.hid (chain0 (w := w) (by repeat (first | with_reducible exact Below.refl _ _ | with_reducible exact HB.out | with_reducible apply Below.drew | with_reducible apply bdN | with_reducible refine Below.alloc ?_ (by first | exact Nat.le_refl _ | with_reducible exact HB.out.size | omega | (simp; done) | (simp; omega) | (have := HB.out.size; simp at *; omega)) _ | with_reducible refine Below.setCell ?_ (by first | exact Nat.le_refl _ | with_reducible exact HB.out.size | omega | (simp; done) | (simp; omega) | (have := HB.out.size; simp at *; omega)) _)) b)
    have HR := Lib.hid (Rd.below (by repeat (first | with_reducible exact HR.out | with_reducible apply Rd.drewN | with_reducible apply Rd.drew | with_reducible apply Rd.alloc)) b)
    have K0 : Hid (DBox _ (w.heap.size) (⟨49, s, nx, .slice p n cp⟩)) := Lib.hid (DBox.below (by repeat (first | with_reducible exact K0.out | with_reducible apply DBox.drewN | with_reducible apply DBox.drew | (with_reducible refine DBox.newAt ?_ ?_ <;> first | (simp; done) | rfl) | with_reducible apply DBox.alloc)) b)
    try clear k0a k0b k0c k0d k0z
    have k0z := K0.out.lt
    obtain ⟨k0a, k0b, k0c, k0d⟩ := K0.out.cell
    clear b
    by_cases h0 : 0 ≤ nx ∧ nx ≤ 81
    · by_cases h1 : 81 < n
      · have HT := Lib.hid (ok_long (d := ⟨s, nx, l⟩) (by show 81 < l.length; rw [HN.out]; exact h1))
        have h2 : (81 : Int) < (n : Int) := by omega
        have hd : decide (0 ≤ nx ∧ nx ≤ 81) = true := decide_eq_true h0
        clear hs
        go_wp2_with fail
        go_ret
        exact ⟨ret_bool HT.out.symm, by repeat (first | with_reducible exact Below.refl _ _ | with_reducible exact HB.out | with_reducible apply Below.drew | with_reducible apply bdN | with_reducible refine Below.alloc ?_ (by first | exact Nat.le_refl _ | with_reducible exact HB.out.size | omega | (simp; done) | (simp; omega) | (have := HB.out.size; simp at *; omega)) _ | with_reducible refine Below.setCell ?_ (by first | exact Nat.le_refl _ | with_reducible exact HB.out.size | omega | (simp; done) | (simp; omega) | (have := HB.out.size; simp at *; omega)) _)⟩
      · obtain ⟨a, rfl⟩ : ∃ a : Nat, nx = (a : Int) := ⟨nx.toNat, by omega⟩
        have hd : decide (0 ≤ (a : Int) ∧ (a : Int) ≤ 81) = true := decide_eq_true h0
        have h2 : ¬ (81 : Int) < (n : Int) := by omega
        have HS := Lib.hid hs
        have HPf := Lib.hid (fun w => l4_pile s w (isSd_iff.1 hs))
        have HNx := Lib.hid (show 0 ≤ (a : Int) ∧ (a : Int) ≤ 81 by omega)
        have HDl := Lib.hid (show (drawn ⟨s, (a : Int), l⟩).length = a by rw [drawn_len HNx.out]; simp)
        have HDw := Lib.hid (drawn_wf (d := ⟨s, (a : Int), l⟩) hs)
        have HPl := Lib.hid (pile_len s)
        have m0 : (0 : Int) ≤ (a : Int) := by omega
        have m1 : (a : Int) ≤ 81 := by omega
        clear hs h0
        go_upto_region 3 with fail
        go_cut [3] (fun s3 wx => ∃ g c, s3 = .slice (some ⟨g, 0, none⟩) a c ∧ Hid (Rd wx (some ⟨g, 0, none⟩) (flat (drawn ⟨s, (a : Int), l⟩))) ∧ Hid (Below w.heap.size w wx) ∧ Hid (DBox wx w.heap.size ⟨49, s, a, .slice p n cp⟩))
        case first =>
          go_region_held3 (fun w' => w'.cell? ⟨w.heap.size, 0, none⟩ = some (.int .i64 s) ∧ w'.cell? ⟨w.heap.size, 1, none⟩ = some (.int .i64 (a : Int)) ∧ w'.cell? ⟨w.heap.size, 2, none⟩ = some (.slice p n cp)) (first | exact ⟨k0a, k0b, k0c⟩ | go_keep) (first
            | (go_at_call 128; refine (HPf.out _).mono ?_; rintro e wq ⟨u, rfl, hu, b⟩; obtain ⟨pu, cu, rfl, hcu, ru⟩ := hu.form; rw [HPl.out] at hu hcu ⊢; have HB := Lib.hid (chain0 (w := w) (by repeat (first | with_reducible exact Below.refl _ _ | with_reducible exact HB.out | with_reducible apply Below.drew | with_reducible apply bdN | with_reducible refine Below.alloc ?_ (by first | exact Nat.le_refl _ | with_reducible exact HB.out.size | omega | (simp; done) | (simp; omega) | (have := HB.out.size; simp at *; omega)) _ | with_reducible refine Below.setCell ?_ (by first | exact Nat.le_refl _ | with_reducible exact HB.out.size | omega | (simp; done) | (simp; omega) | (have := HB.out.size; simp at *; omega)) _)) b); have HR := Lib.hid (Rd.below (by repeat (first | with_reducible exact HR.out | with_reducible apply Rd.drewN | with_reducible apply Rd.drew | with_reducible apply Rd.alloc)) b); have K0 : Hid (DBox _ (w.heap.size) (⟨49, s, a, .slice p n cp⟩)) := Lib.hid (DBox.below (by repeat (first | with_reducible exact K0.out | with_reducible apply DBox.drewN | with_reducible apply DBox.drew | (with_reducible refine DBox.newAt ?_ ?_ <;> first | (simp; done) | rfl) | with_reducible apply DBox.alloc)) b); obtain ⟨k0a, k0b, k0c, k0d⟩ := K0.out.cell; have k0z := K0.out.lt; have R1 := Lib.hid ru; have qcu : (a : Int) ≤ (cu : Int) := Int.le_trans m1 (Int.ofNat_le.mpr hcu); clear b hu hcu ru))
          all_goals
            go_wp2_with fail
            go_meet
            case rel => exact ⟨_, _, rfl, Lib.hid (R1.out.take a), HB, K0⟩
        case rest =>
          clear HB HR K0 k0a k0b k0c k0d k0z HPf
          obtain ⟨g, c, rfl, HP, HB, K0⟩ := hcut
          obtain ⟨k0a, k0b, k0c, k0d⟩ := K0.out.cell
          have k0z := K0.out.lt
          go_wp2_with fail
          clear k0a k0b k0c k0d k0z
          go_loopw [4] (fun i wr => ∃ k : Nat, k ≤ n ∧ i = .int .i64 k ∧ Hid (okI ⟨s, (a : Int), l⟩ k) ∧ Hid (Rd wr (some ⟨g, 0, none⟩) (flat (drawn ⟨s, (a : Int), l⟩))) ∧ Hid (Below w.heap.size w wr) ∧ Hid (DBox wr w.heap.size ⟨49, s, a, .slice p n cp⟩)) (fun i _ => n - (intOf i).toNat)
          case atStart => exact ⟨0, Nat.zero_le _, rfl, okI_zero _, HP, HB, K0⟩
          case round =>
            clear HP HB K0
            obtain ⟨k, hk, rfl, HI, HP, HB, K0⟩ := hrel
            obtain ⟨k0a, k0b, k0c, k0d⟩ := K0.out.cell
            have k0z := K0.out.lt
            by_cases hlt : k < n
            · have HR := Lib.hid (HR0.out.below HB.out)
              obtain ⟨bk, o, x, rfl, hb, hx, c0, c1, c2, c3⟩ := HR.out.card (k := k) (by rw [HN.out]; exact hlt)
              have HX := Lib.hid hx
              have HXw := Lib.hid (wfc_at HW.out hx)
              have HTw := Lib.hid (show ∀ y ∈ l.take k, wfc y from fun y hy => HW.out y (List.mem_of_mem_take hy))
              have HTl := Lib.hid (show (l.take k).length = k by rw [List.length_take, HN.out]; omega)
              have HC1 := Lib.hid (fun (w' : World) (hr : Rd w' (some ⟨g, 0, none⟩) (flat (drawn ⟨s, (a : Int), l⟩))) => has_any (drawn ⟨s, (a : Int), l⟩) x (some ⟨g, 0, none⟩) a c w' HDl.out (by omega) hr HDw.out HXw.out)
              have HC2 := Lib.hid (fun (w' : World) (hr : Rd w' (some ⟨bk, o, none⟩) (flat (l.take k))) => has_any (l.take k) x (some ⟨bk, o, none⟩) k cp w' HTl.out (by omega) hr HTw.out HXw.out)
              have HRt := Lib.hid (HR.out.take k)
              have m2 : (0 : Int) ≤ (k : Int) := by omega
              have m3 : (k : Int) < (n : Int) := by omega
              have m4 : (k : Int) ≤ (cp : Int) := by omega
              have m5 : (k : Int) ≤ (n : Int) := by omega
              clear hx
              cases hd : hasC (drawn ⟨s, (a : Int), l⟩) x
              · have HT := Lib.hid (ok_fail1 (d := ⟨s, (a : Int), l⟩) HX.out hd)
                have HC1 := HC1.out
                rw [hd] at HC1
                have HC1 := Lib.hid HC1
                clear hd
                go_upto_region 7 with fail
                go_wp2_with fail
                have qk0a := fun d os => cell_regrown k0a d os
                have qk0b := fun d os => cell_regrown k0b d os
                have qk0c := fun d os => cell_regrown k0c d os
                have qc0 := fun d os => cell_regrown c0 d os
                have qc1 := fun d os => cell_regrown c1 d os
                have qc2 := fun d os => cell_regrown c2 d os
                have qc3 := fun d os => cell_regrown c3 d os
                refine wp_region_quiet_below (by kernel_rfl) (by kernel_rfl) ?_
                repeat (first | go_big_quiet_step ((go_at_call 129; with_reducible exact Calls.regrown_of (HC1.out _ (HP.out.below (below_regrown _ _ _))))) | quiet_step ((go_at_call 129; with_reducible exact Calls.regrown_of (HC1.out _ (HP.out.below (below_regrown _ _ _))))))
                refine wpQuiet_nil ?_
                intro w4 hw2
                have b : Below wr.heap.size wr w4 := by obtain ⟨r, hr⟩ := hw2; rw [hr]; exact below_regrown _ _ _
                clear hw2 qc0 qc1 qc2 qc3 qk0a qk0b qk0c
                have Sw4 := Lib.hid b.size
                have HB := Lib.hid (chain0 (w := w) (by repeat (first | with_reducible exact Below.refl _ _ | with_reducible exact HB.out | with_reducible apply Below.drew | with_reducible apply bdN | with_reducible refine Below.alloc ?_ (by first | exact Nat.le_refl _ | with_reducible exact HB.out.size | omega | (simp; done) | (simp; omega) | (have := HB.out.size; simp at *; omega)) _ | with_reducible refine Below.setCell ?_ (by first | exact Nat.le_refl _ | with_reducible exact HB.out.size | omega | (simp; done) | (simp; omega) | (have := HB.out.size; simp at *; omega)) _)) b)
                have HP := Lib.hid (Rd.below (by repeat (first | with_reducible exact HP.out | with_reducible apply Rd.drewN | with_reducible apply Rd.drew | with_reducible apply Rd.alloc)) b)
                have HRt := Lib.hid (Rd.below (by repeat (first | with_reducible exact HRt.out | with_reducible apply Rd.drewN | with_reducible apply Rd.drew | with_reducible apply Rd.alloc)) b)
                have K0 : Hid (DBox _ (w.heap.size) (⟨49, s, a, .slice (some ⟨bk, o, none⟩) n cp⟩)) := Lib.hid (DBox.below (by repeat (first | with_reducible exact K0.out | with_reducible apply DBox.drewN | with_reducible apply DBox.drew | (with_reducible refine DBox.newAt ?_ ?_ <;> first | (simp; done) | rfl) | with_reducible apply DBox.alloc)) b)
                try clear k0a k0b k0c k0d k0z
                have k0z := K0.out.lt
                obtain ⟨k0a, k0b, k0c, k0d⟩ := K0.out.cell
                clear b
                go_wp2_with fail
                go_ret
                exact ⟨ret_bool HT.out.symm, HB.out⟩
              · cases he : hasC (l.take k) x
                · have HI2 := Lib.hid (okI_step HI.out HX.out hd he)
                  have HC1 := HC1.out
                  rw [hd] at HC1
                  have HC1 := Lib.hid HC1
                  have HC2 := HC2.out
                  rw [he] at HC2
                  have HC2 := Lib.hid HC2
                  clear hd he
                  go_upto_region 7 with fail
                  go_wp2_with fail
                  have qk0a := fun d os => cell_regrown k0a d os
                  have qk0b := fun d os => cell_regrown k0b d os
                  have qk0c := fun d os => cell_regrown k0c d os
                  have qc0 := fun d os => cell_regrown c0 d os
                  have qc1 := fun d os => cell_regrown c1 d os
                  have qc2 := fun d os => cell_regrown c2 d os
                  have qc3 := fun d os => cell_regrown c3 d os
                  refine wp_region_quiet_below (by kernel_rfl) (by kernel_rfl) ?_
                  repeat (first | go_big_quiet_step ((go_at_call 129; first | with_reducible exact Calls.regrown_of (HC1.out _ (HP.out.below (below_regrown _ _ _))) | with_reducible exact Calls.regrown_of (HC2.out _ (HRt.out.below (below_regrown _ _ _))))) | quiet_step ((go_at_call 129; first | with_reducible exact Calls.regrown_of (HC1.out _ (HP.out.below (below_regrown _ _ _))) | with_reducible exact Calls.regrown_of (HC2.out _ (HRt.out.below (below_regrown _ _ _))))))
                  refine wpQuiet_nil ?_
                  intro w4 hw2
                  have b : Below wr.heap.size wr w4 := by obtain ⟨r, hr⟩ := hw2; rw [hr]; exact below_regrown _ _ _
                  clear hw2 qc0 qc1 qc2 qc3 qk0a qk0b qk0c
                  have Sw4 := Lib.hid b.size
                  have HB := Lib.hid (chain0 (w := w) (by repeat (first | with_reducible exact Below.refl _ _ | with_reducible exact HB.out | with_reducible apply Below.drew | with_reducible apply bdN | with_reducible refine Below.alloc ?_ (by first | exact Nat.le_refl _ | with_reducible exact HB.out.size | omega | (simp; done) | (simp; omega) | (have := HB.out.size; simp at *; omega)) _ | with_reducible refine Below.setCell ?_ (by first | exact Nat.le_refl _ | with_reducible exact HB.out.size | omega | (simp; done) | (simp; omega) | (have := HB.out.size; simp at *; omega)) _)) b)
                  have HP := Lib.hid (Rd.below (by repeat (first | with_reducible exact HP.out | with_reducible apply Rd.drewN | with_reducible apply Rd.drew | with_reducible apply Rd.alloc)) b)
                  have HRt := Lib.hid (Rd.below (by repeat (first | with_reducible exact HRt.out | with_reducible apply Rd.drewN | with_reducible apply Rd.drew | with_reducible apply Rd.alloc)) b)
                  have K0 : Hid (DBox _ (w.heap.size) (⟨49, s, a, .slice (some ⟨bk, o, none⟩) n cp⟩)) := Lib.hid (DBox.below (by repeat (first | with_reducible exact K0.out | with_reducible apply DBox.drewN | with_reducible apply DBox.drew | (with_reducible refine DBox.newAt ?_ ?_ <;> first | (simp; done) | rfl) | with_reducible apply DBox.alloc)) b)
                  try clear k0a k0b k0c k0d k0z
                  have k0z := K0.out.lt
                  obtain ⟨k0a, k0b, k0c, k0d⟩ := K0.out.cell
                  clear b
                  go_wp2_with fail
                  go_roundw
                  case rel => exact ⟨k + 1, by omega, by go_num, HI2, HP, HB, K0⟩
                  case measure => simp [intOf]; omega
                · have HT := Lib.hid (ok_fail2 (d := ⟨s, (a : Int), l⟩) HX.out he)
                  have HC1 := HC1.out
                  rw [hd] at HC1
                  have HC1 := Lib.hid HC1
                  have HC2 := HC2.out
                  rw [he] at HC2
                  have HC2 := Lib.hid HC2
                  clear hd he
                  go_upto_region 7 with fail
                  go_wp2_with fail
                  have qk0a := fun d os => cell_regrown k0a d os
                  have qk0b := fun d os => cell_regrown k0b d os
                  have qk0c := fun d os => cell_regrown k0c d os
                  have qc0 := fun d os => cell_regrown c0 d os
                  have qc1 := fun d os => cell_regrown c1 d os
                  have qc2 := fun d os => cell_regrown c2 d os
                  have qc3 := fun d os => cell_regrown c3 d os
                  refine wp_region_quiet_below (by kernel_rfl) (by kernel_rfl) ?_
                  repeat (first | go_big_quiet_step ((go_at_call 129; first | with_reducible exact Calls.regrown_of (HC1.out _ (HP.out.below (below_regrown _ _ _))) | with_reducible exact Calls.regrown_of (HC2.out _ (HRt.out.below (below_regrown _ _ _))))) | quiet_step ((go_at_call 129; first | with_reducible exact Calls.regrown_of (HC1.out _ (HP.out.below (below_regrown _ _ _))) | with_reducible exact Calls.regrown_of (HC2.out _ (HRt.out.below (below_regrown _ _ _))))))
                  refine wpQuiet_nil ?_
                  intro w4 hw2
                  have b : Below wr.heap.size wr w4 := by obtain ⟨r, hr⟩ := hw2; rw [hr]; exact below_regrown _ _ _
                  clear hw2 qc0 qc1 qc2 qc3 qk0a qk0b qk0c
                  have Sw4 := Lib.hid b.size
                  have HB := Lib.hid (chain0 (w := w) (by repeat (first | with_reducible exact Below.refl _ _ | with_reducible exact HB.out | with_reducible apply Below.drew | with_reducible apply bdN | with_reducible refine Below.alloc ?_ (by first | exact Nat.le_refl _ | with_reducible exact HB.out.size | omega | (simp; done) | (simp; omega) | (have := HB.out.size; simp at *; omega)) _ | with_reducible refine Below.setCell ?_ (by first | exact Nat.le_refl _ | with_reducible exact HB.out.size | omega | (simp; done) | (simp; omega) | (have := HB.out.size; simp at *; omega)) _)) b)
                  have HP := Lib.hid (Rd.below (by repeat (first | with_reducible exact HP.out | with_reducible apply Rd.drewN | with_reducible apply Rd.drew | with_reducible apply Rd.alloc)) b)
                  have HRt := Lib.hid (Rd.below (by repeat (first | with_reducible exact HRt.out | with_reducible apply Rd.drewN | with_reducible apply Rd.drew | with_reducible apply Rd.alloc)) b)
                  have K0 : Hid (DBox _ (w.heap.size) (⟨49, s, a, .slice (some ⟨bk, o, none⟩) n cp⟩)) := Lib.hid (DBox.below (by repeat (first | with_reducible exact K0.out | with_reducible apply DBox.drewN | with_reducible apply DBox.drew | (with_reducible refine DBox.newAt ?_ ?_ <;> first | (simp; done) | rfl) | with_reducible apply DBox.alloc)) b)
                  try clear k0a k0b k0c k0d k0z
                  have k0z := K0.out.lt
                  obtain ⟨k0a, k0b, k0c, k0d⟩ := K0.out.cell
                  clear b
                  go_wp2_with fail
                  go_ret
                  exact ⟨ret_bool HT.out.symm, HB.out⟩
            · obtain rfl : k = n := by omega
              have HT := Lib.hid (okI_end (d := ⟨s, (a : Int), l⟩) HS.out HNx.out (by rw [show (Dl.mk s (a : Int) l).l.length = k from HN.out]; exact HI.out))
              go_wp2_with fail
              go_ret
              exact ⟨ret_bool HT.out.symm, by repeat (first | with_reducible exact Below.refl _ _ | with_reducible exact HB.out | with_reducible apply Below.drew | with_reducible apply bdN | with_reducible refine Below.alloc ?_ (by first | exact Nat.le_refl _ | with_reducible exact HB.out.size | omega | (simp; done) | (simp; omega) | (have := HB.out.size; simp at *; omega)) _ | with_reducible refine Below.setCell ?_ (by first | exact Nat.le_refl _ | with_reducible exact HB.out.size | omega | (simp; done) | (simp; omega) | (have := HB.out.size; simp at *; omega)) _)⟩
    · have HT := Lib.hid (ok_next (d := ⟨s, nx, l⟩) h0)
      have hd : decide (0 ≤ nx ∧ nx ≤ 81) = false := decide_eq_false h0
      clear hs
      go_wp2_with fail
      go_ret
      exact ⟨ret_bool HT.out.symm, by repeat (first | with_reducible exact Below.refl _ _ | with_reducible exact HB.out | with_reducible apply Below.drew | with_reducible apply bdN | with_reducible refine Below.alloc ?_ (by first | exact Nat.le_refl _ | with_reducible exact HB.out.size | omega | (simp; done) | (simp; omega) | (have := HB.out.size; simp at *; omega)) _ | with_reducible refine Below.setCell ?_ (by first | exact Nat.le_refl _ | with_reducible exact HB.out.size | omega | (simp; done) | (simp; omega) | (have := HB.out.size; simp at *; omega)) _)⟩
end Go.Proofs.Ytjanphcfflahkaa.deal
