/- Is a list a picking of all lines: the program's search. -/
import Derived.Test.YtnmlggieabjapaaZb
import Derived.Test.YtnmlggieabjapaaZg
namespace Go.Proofs.Ytnmlggieabjapaa.parting
open Go.RowKit
open cards maps
set_option linter.unusedVariables false

theorem drop_at {α : Type} {l : List α} {k : Nat} {x : α} (h : l[k]? = some x) : l.drop k = x :: l.drop (k + 1) := by
  obtain ⟨hk, rfl⟩ := List.getElem?_eq_some_iff.1 h
  exact List.drop_eq_getElem_cons hk
theorem am_yes {A ls : List A3} {k f : Nat} {x y : A3} (hx : A[k]? = some x) (hy : ls[f]? = some y) (hs : same3 x y = true) (hf : free (ls.take f) x = true) : am (A.drop k) (ls.drop f) (ls.take f) = am (A.drop (k + 1)) (ls.drop (f + 1)) (ls.take (f + 1)) := by
  obtain rfl := same3_iff.1 hs
  rw [drop_at hx, drop_at hy, am, if_pos ⟨hs, hf⟩, take_snoc hy]
theorem am_not {A ls : List A3} {k f : Nat} {x y : A3} (hx : A[k]? = some x) (hy : ls[f]? = some y) (h : ¬ (same3 x y = true ∧ free (ls.take f) x = true)) : am (A.drop k) (ls.drop f) (ls.take f) = am (A.drop (k + 1)) (ls.drop f) (ls.take f) := by
  rw [drop_at hx, drop_at hy, am, if_neg (fun e => h ⟨e.1, by rw [same3_iff.1 e.1]; exact e.2⟩)]
theorem am_done {A ls : List A3} {k f : Nat} (h : ls.length ≤ f) : am (A.drop k) (ls.drop f) (ls.take f) = [] := by
  rw [List.drop_of_length_le h, am]
theorem am_out {A ls : List A3} {k f : Nat} (h : A.length ≤ k) : (am (A.drop k) (ls.drop f) (ls.take f)).isEmpty = decide (ls.length ≤ f) := by
  rw [List.drop_of_length_le h]
  by_cases hf : ls.length ≤ f
  · rw [List.drop_of_length_le hf, am, decide_eq_true hf]; rfl
  · rw [decide_eq_false hf]
    cases e : ls.drop f with
    | nil => exact (hf (List.drop_eq_nil_iff.1 e)).elim
    | cons z r => rfl

set_option maxRecDepth 100000 in
set_option maxHeartbeats 4000000 in
theorem are_picked (A ls : List A3) (pa pl : Option Addr) (m ca n cl : Nat) (w : World) (hm : A.length = m) (hn : ls.length = n) (hml : m ≤ 1000000) (hnl : n ≤ 1000000000) (hc : n ≤ cl) (ha : Rd w pa (A3.flat A)) (hr : Rd w pl (A3.flat ls)) (hwa : ∀ x ∈ A, wf3 x) (hwl : ∀ x ∈ ls, wf3 x) :
    Calls Try.prog 69 #[.slice pa m ca, .slice pl n cl] w fun e w' => e = .returned (.bool (am A ls []).isEmpty) ∧ Below w.heap.size w w' := by
  obtain ⟨R, hR⟩ : ∃ R, am A ls [] = R := ⟨_, rfl⟩
  rw [hR]
  have HRr := Lib.hid hR
  have HM := Lib.hid hm
  have HN := Lib.hid hn
  have HA := Lib.hid ha
  have HL := Lib.hid hr
  have HWa := Lib.hid hwa
  have HWl := Lib.hid hwl
  clear hm hn ha hr hwa hwl hR
  go_enter Try.func69, Try.ntmps69
  go_wp2_with fail
  go_step3
  go_wp2_with fail
  go_step3
  go_wp2_with fail
  go_loopw [5, 7, 10] (fun f _ i wr => ∃ k z : Nat, k ≤ m ∧ z ≤ n ∧ i = .int .i64 k ∧ f = .int .i64 z ∧ Hid (am (A.drop k) (ls.drop z) (ls.take z) = R) ∧ Hid (Below w.heap.size w wr) ∧ Hid (Rd wr pa (A3.flat A)) ∧ Hid (Rd wr pl (A3.flat ls))) (fun _ _ i _ => m - (intOf i).toNat)
  case atStart => exact ⟨0, 0, Nat.zero_le _, Nat.zero_le _, rfl, rfl, HRr, Lib.hid (Below.refl _ _), HA, HL⟩
  case round =>
    clear HA HL
    obtain ⟨k, z, hk, hz, rfl, rfl, HS, HB, HA, HL⟩ := hrel
    by_cases hlt : k < m
    · obtain ⟨b, o, x, rfl, hb, hx, c0, c1, c2⟩ := HA.out.aA3 (k := k) (by rw [HM.out]; exact hlt)
      have HX := Lib.hid hx
      have HXw := Lib.hid (HWa.out x (List.mem_of_getElem? hx))
      have m0 : (0 : Int) ≤ (k : Int) := by omega
      have m1 : (k : Int) < (m : Int) := by omega
      clear hx
      by_cases hzn : z = n
      · have HE := Lib.hid (show R = [] by rw [← HS.out]; exact am_done (by rw [HN.out]; omega))
        have hd : ((z : Int) == (n : Int)) = true := by rw [hzn]; simp
        clear hzn
        go_wp2_with fail
        (try rw [Exit.noGoto_ret])
        show bodyPost _ _ _ _ _ _
        go_ret
        exact ⟨ret_bool (by rw [HE.out]; rfl), by repeat (first | with_reducible exact Below.refl _ _ | with_reducible exact HB.out | with_reducible apply Below.drew | with_reducible apply bdN | with_reducible refine Below.alloc ?_ (by first | exact Nat.le_refl _ | with_reducible exact HB.out.size | omega | (simp; done) | (simp; omega) | (have := HB.out.size; simp at *; omega)) _ | with_reducible refine Below.setCell ?_ (by first | exact Nat.le_refl _ | with_reducible exact HB.out.size | omega | (simp; done) | (simp; omega) | (have := HB.out.size; simp at *; omega)) _)⟩
      · have hd : ((z : Int) == (n : Int)) = false := beq_eq_false_iff_ne.2 (by omega)
        have hzl : z < n := by omega
        have m2 : (0 : Int) ≤ (z : Int) := by omega
        have m3 : (z : Int) < (n : Int) := by omega
        have m4 : (z : Int) ≤ (cl : Int) := by omega
        clear hzn
        go_wp2_with fail
        obtain ⟨w1, ew, b⟩ : ∃ w1 : World, w1 = (wr.alloc (A3.obj x)) ∧ Below ((wr.alloc (A3.obj x))).heap.size ((wr.alloc (A3.obj x))) w1 := ⟨_, rfl, Below.refl _ _⟩
        rw [← ew]
        clear ew
        have Sw1 := Lib.hid b.size
        have HB := Lib.hid (chain0 (w := w) (by repeat (first | with_reducible exact Below.refl _ _ | with_reducible exact HB.out | with_reducible apply Below.drew | with_reducible apply bdN | with_reducible refine Below.alloc ?_ (by first | exact Nat.le_refl _ | with_reducible exact HB.out.size | omega | (simp; done) | (simp; omega) | (have := HB.out.size; simp at *; omega)) _ | with_reducible refine Below.setCell ?_ (by first | exact Nat.le_refl _ | with_reducible exact HB.out.size | omega | (simp; done) | (simp; omega) | (have := HB.out.size; simp at *; omega)) _)) b)
        have HA := Lib.hid (Rd.below (by repeat (first | with_reducible exact HA.out | with_reducible apply Rd.drewN | with_reducible apply Rd.drew | with_reducible apply Rd.alloc)) b)
        have HL := Lib.hid (Rd.below (by repeat (first | with_reducible exact HL.out | with_reducible apply Rd.drewN | with_reducible apply Rd.drew | with_reducible apply Rd.alloc)) b)
        have K0 : Hid (TBox _ (wr.heap.size) (x)) := Lib.hid (TBox.below (by repeat (first | with_reducible exact K0.out | with_reducible apply TBox.drewN | with_reducible apply TBox.drew | (with_reducible refine TBox.newAt ?_ ?_ <;> first | (simp; done) | rfl) | with_reducible apply TBox.alloc)) b)
        try clear k0a k0b k0c k0d k0z
        have k0z := K0.out.lt
        obtain ⟨k0a, k0b, k0c, k0d⟩ := K0.out.cell
        clear b
        clear c0 c1 c2
        obtain ⟨b2, o2, y, rfl, hb2, hy, d0, d1, d2⟩ := HL.out.aA3 (k := z) (by rw [HN.out]; exact hzl)
        have HY := Lib.hid hy
        have he := eq3 x y HXw.out (HWl.out y (List.mem_of_getElem? hy))
        have HP := Lib.hid (fun w' (hw : Below w1.heap.size w1 w') => is_apart (ls.take z) x (some ⟨b2, o2, none⟩) z cl w' (by rw [List.length_take, HN.out]; omega) (by omega) (Rd.takeA3 (HL.out.below hw) z))
        obtain ⟨fr, hfr⟩ : ∃ fr, free (ls.take z) x = fr := ⟨_, rfl⟩
        rw [hfr] at HP
        have HFr := Lib.hid hfr
        clear hy hfr
        cases hs : same3 x y
        · have HS2 := Lib.hid (show am (A.drop (k + 1)) (ls.drop z) (ls.take z) = R by rw [← am_not HX.out HY.out (by simp [hs])]; exact HS.out)
          rw [hs] at he
          clear hs
          have qk0a := fun d os => cell_regrown k0a d os
          have qk0b := fun d os => cell_regrown k0b d os
          have qk0c := fun d os => cell_regrown k0c d os
          have qd0 := fun d os => cell_regrown d0 d os
          have qd1 := fun d os => cell_regrown d1 d os
          have qd2 := fun d os => cell_regrown d2 d os
          refine wp_region_quiet_below (by kernel_rfl) (by kernel_rfl) ?_
          repeat (first | go_big_quiet_step ((go_at_call 77; with_reducible exact Calls.regrown_of (HP.out _ (below_regrown _ _ _)))) | quiet_step ((go_at_call 77; with_reducible exact Calls.regrown_of (HP.out _ (below_regrown _ _ _)))))
          refine wpQuiet_nil ?_
          intro w2 hw2
          have b : Below w1.heap.size w1 w2 := by obtain ⟨r, hr⟩ := hw2; rw [hr]; exact below_regrown _ _ _
          clear hw2 qd0 qd1 qd2 qk0a qk0b qk0c
          have Sw2 := Lib.hid b.size
          have HB := Lib.hid (chain0 (w := w) (by repeat (first | with_reducible exact Below.refl _ _ | with_reducible exact HB.out | with_reducible apply Below.drew | with_reducible apply bdN | with_reducible refine Below.alloc ?_ (by first | exact Nat.le_refl _ | with_reducible exact HB.out.size | omega | (simp; done) | (simp; omega) | (have := HB.out.size; simp at *; omega)) _ | with_reducible refine Below.setCell ?_ (by first | exact Nat.le_refl _ | with_reducible exact HB.out.size | omega | (simp; done) | (simp; omega) | (have := HB.out.size; simp at *; omega)) _)) b)
          have HA := Lib.hid (Rd.below (by repeat (first | with_reducible exact HA.out | with_reducible apply Rd.drewN | with_reducible apply Rd.drew | with_reducible apply Rd.alloc)) b)
          have HL := Lib.hid (Rd.below (by repeat (first | with_reducible exact HL.out | with_reducible apply Rd.drewN | with_reducible apply Rd.drew | with_reducible apply Rd.alloc)) b)
          have K0 : Hid (TBox _ (wr.heap.size) (x)) := Lib.hid (TBox.below (by repeat (first | with_reducible exact K0.out | with_reducible apply TBox.drewN | with_reducible apply TBox.drew | (with_reducible refine TBox.newAt ?_ ?_ <;> first | (simp; done) | rfl) | with_reducible apply TBox.alloc)) b)
          try clear k0a k0b k0c k0d k0z
          have k0z := K0.out.lt
          obtain ⟨k0a, k0b, k0c, k0d⟩ := K0.out.cell
          clear b
          clear d0 d1 d2 he
          go_wp2_with fail
          go_roundw
          case rel => exact ⟨k + 1, z, by omega, hz, by go_num, rfl, HS2, HB, HA, HL⟩
          case measure => simp [intOf]; omega
        · rw [hs] at he
          cases fr
          · have HS2 := Lib.hid (show am (A.drop (k + 1)) (ls.drop z) (ls.take z) = R by rw [← am_not HX.out HY.out (by simp [HFr.out])]; exact HS.out)
            clear hs
            have qk0a := fun d os => cell_regrown k0a d os
            have qk0b := fun d os => cell_regrown k0b d os
            have qk0c := fun d os => cell_regrown k0c d os
            have qd0 := fun d os => cell_regrown d0 d os
            have qd1 := fun d os => cell_regrown d1 d os
            have qd2 := fun d os => cell_regrown d2 d os
            refine wp_region_quiet_below (by kernel_rfl) (by kernel_rfl) ?_
            repeat (first | go_big_quiet_step ((go_at_call 77; with_reducible exact Calls.regrown_of (HP.out _ (below_regrown _ _ _)))) | quiet_step ((go_at_call 77; with_reducible exact Calls.regrown_of (HP.out _ (below_regrown _ _ _)))))
            refine wpQuiet_nil ?_
            intro w2 hw2
            have b : Below w1.heap.size w1 w2 := by obtain ⟨r, hr⟩ := hw2; rw [hr]; exact below_regrown _ _ _
            clear hw2 qd0 qd1 qd2 qk0a qk0b qk0c
            have Sw2 := Lib.hid b.size
            have HB := Lib.hid (chain0 (w := w) (by repeat (first | with_reducible exact Below.refl _ _ | with_reducible exact HB.out | with_reducible apply Below.drew | with_reducible apply bdN | with_reducible refine Below.alloc ?_ (by first | exact Nat.le_refl _ | with_reducible exact HB.out.size | omega | (simp; done) | (simp; omega) | (have := HB.out.size; simp at *; omega)) _ | with_reducible refine Below.setCell ?_ (by first | exact Nat.le_refl _ | with_reducible exact HB.out.size | omega | (simp; done) | (simp; omega) | (have := HB.out.size; simp at *; omega)) _)) b)
            have HA := Lib.hid (Rd.below (by repeat (first | with_reducible exact HA.out | with_reducible apply Rd.drewN | with_reducible apply Rd.drew | with_reducible apply Rd.alloc)) b)
            have HL := Lib.hid (Rd.below (by repeat (first | with_reducible exact HL.out | with_reducible apply Rd.drewN | with_reducible apply Rd.drew | with_reducible apply Rd.alloc)) b)
            have K0 : Hid (TBox _ (wr.heap.size) (x)) := Lib.hid (TBox.below (by repeat (first | with_reducible exact K0.out | with_reducible apply TBox.drewN | with_reducible apply TBox.drew | (with_reducible refine TBox.newAt ?_ ?_ <;> first | (simp; done) | rfl) | with_reducible apply TBox.alloc)) b)
            try clear k0a k0b k0c k0d k0z
            have k0z := K0.out.lt
            obtain ⟨k0a, k0b, k0c, k0d⟩ := K0.out.cell
            clear b
            clear d0 d1 d2 he
            go_wp2_with fail
            go_roundw
            case rel => exact ⟨k + 1, z, by omega, hz, by go_num, rfl, HS2, HB, HA, HL⟩
            case measure => simp [intOf]; omega
          · have HS2 := Lib.hid (show am (A.drop (k + 1)) (ls.drop (z + 1)) (ls.take (z + 1)) = R by rw [← am_yes HX.out HY.out hs HFr.out]; exact HS.out)
            clear hs
            have qk0a := fun d os => cell_regrown k0a d os
            have qk0b := fun d os => cell_regrown k0b d os
            have qk0c := fun d os => cell_regrown k0c d os
            have qd0 := fun d os => cell_regrown d0 d os
            have qd1 := fun d os => cell_regrown d1 d os
            have qd2 := fun d os => cell_regrown d2 d os
            refine wp_region_quiet_below (by kernel_rfl) (by kernel_rfl) ?_
            repeat (first | go_big_quiet_step ((go_at_call 77; with_reducible exact Calls.regrown_of (HP.out _ (below_regrown _ _ _)))) | quiet_step ((go_at_call 77; with_reducible exact Calls.regrown_of (HP.out _ (below_regrown _ _ _)))))
            refine wpQuiet_nil ?_
            intro w2 hw2
            have b : Below w1.heap.size w1 w2 := by obtain ⟨r, hr⟩ := hw2; rw [hr]; exact below_regrown _ _ _
            clear hw2 qd0 qd1 qd2 qk0a qk0b qk0c
            have Sw2 := Lib.hid b.size
            have HB := Lib.hid (chain0 (w := w) (by repeat (first | with_reducible exact Below.refl _ _ | with_reducible exact HB.out | with_reducible apply Below.drew | with_reducible apply bdN | with_reducible refine Below.alloc ?_ (by first | exact Nat.le_refl _ | with_reducible exact HB.out.size | omega | (simp; done) | (simp; omega) | (have := HB.out.size; simp at *; omega)) _ | with_reducible refine Below.setCell ?_ (by first | exact Nat.le_refl _ | with_reducible exact HB.out.size | omega | (simp; done) | (simp; omega) | (have := HB.out.size; simp at *; omega)) _)) b)
            have HA := Lib.hid (Rd.below (by repeat (first | with_reducible exact HA.out | with_reducible apply Rd.drewN | with_reducible apply Rd.drew | with_reducible apply Rd.alloc)) b)
            have HL := Lib.hid (Rd.below (by repeat (first | with_reducible exact HL.out | with_reducible apply Rd.drewN | with_reducible apply Rd.drew | with_reducible apply Rd.alloc)) b)
            have K0 : Hid (TBox _ (wr.heap.size) (x)) := Lib.hid (TBox.below (by repeat (first | with_reducible exact K0.out | with_reducible apply TBox.drewN | with_reducible apply TBox.drew | (with_reducible refine TBox.newAt ?_ ?_ <;> first | (simp; done) | rfl) | with_reducible apply TBox.alloc)) b)
            try clear k0a k0b k0c k0d k0z
            have k0z := K0.out.lt
            obtain ⟨k0a, k0b, k0c, k0d⟩ := K0.out.cell
            clear b
            clear d0 d1 d2 he
            go_wp2_with fail
            go_roundw
            case rel => exact ⟨k + 1, z + 1, by omega, by omega, by go_num, by go_num, HS2, HB, HA, HL⟩
            case measure => simp [intOf]; omega
    · have HO := Lib.hid (show R.isEmpty = decide (n ≤ z) by rw [← HS.out, ← HN.out]; exact am_out (by rw [HM.out]; omega))
      have hd : ¬ (k : Int) < (m : Int) := by omega
      have HD := Lib.hid (show ((z : Int) == (n : Int)) = decide (n ≤ z) by rw [Bool.eq_iff_iff, beq_iff_eq, decide_eq_true_eq]; omega)
      go_wp2_with fail
      (try rw [Exit.noGoto_ret])
      show bodyPost _ _ _ _ _ _
      go_ret
      exact ⟨ret_bool (by rw [HO.out, ← HD.out]), HB.out⟩
end Go.Proofs.Ytnmlggieabjapaa.parting
