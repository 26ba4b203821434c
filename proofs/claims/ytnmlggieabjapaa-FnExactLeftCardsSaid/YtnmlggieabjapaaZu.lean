/- Is a list a picking: the model's walk. -/
import Derived.Test.YtnmlggieabjapaaZs
namespace Go.Proofs.Ytnmlggieabjapaa.parting
open Go.RowKit
open cards maps
set_option linter.unusedVariables false

theorem step_iff {A ls : List A3} {k : Nat} {x : A3} (hx : ls[k]? = some x) : stepOk A ls k ↔ hasL A x = true ∧ free (ls.take k) x = true ∧ ∀ y, 0 < k → ls[k - 1]? = some y → befL y x = true := by
  unfold stepOk
  rw [hasL_iff]
  constructor
  · rintro ⟨x', h, h1, h2, h3⟩
    rw [hx] at h; injection h with h; subst h
    exact ⟨h1, h2, h3⟩
  · rintro ⟨h1, h2, h3⟩
    exact ⟨x, hx, h1, h2, h3⟩

set_option maxRecDepth 100000 in
set_option maxHeartbeats 8000000 in
theorem l7_picking (l : List Cd) (A ls : List A3) (p pl : Option Addr) (nh ch n cl : Nat) (w : World) (hhl : l.length = nh) (hh : nh ≤ 27) (hr : Rd w p (flat l)) (hok : l.all Cd.ok = true) (hs : sorted l) (hA : allL l nh = A)
    (hn : ls.length = n) (hnl : n ≤ 1000000000) (hc : n ≤ cl) (hrl : Rd w pl (A3.flat ls)) (hml : A.length ≤ 1000000) (hwa : ∀ x ∈ A, wf3 x) (hwl : ∀ x ∈ ls, wf3 x) :
    Calls Try.prog 67 #[.slice p nh ch, .slice pl n cl] w fun e w' => e = .returned (.bool (pickB A ls)) ∧ Below w.heap.size w w' := by
  have HLn := l2_lines l p nh ch w hhl hh hr hok hs
  rw [hA] at HLn
  replace HLn := Lib.hid HLn
  have HN := Lib.hid hn
  have HL := Lib.hid hrl
  have HWa := Lib.hid hwa
  have HWl := Lib.hid hwl
  obtain ⟨m, hm⟩ : ∃ m, A.length = m := ⟨_, rfl⟩
  rw [hm] at hml
  have HM := Lib.hid hm
  clear hn hrl hwa hwl hr hok hs hA hhl hm
  go_enter Try.func67, Try.ntmps67
  go_wp2_with fail
  refine (HLn.out).mono ?_
  rintro e w1 ⟨u, rfl, hu, b⟩
  have HB : Hid (Below w.heap.size w w) := Lib.hid (Below.refl _ _)
  have HU := Lib.hid hu
  have Sw1 := Lib.hid b.size
  have HB := Lib.hid (chain0 (w := w) (by repeat (first | with_reducible exact Below.refl _ _ | with_reducible exact HB.out | with_reducible apply Below.drew | with_reducible apply bdN | with_reducible refine Below.alloc ?_ (by first | exact Nat.le_refl _ | with_reducible exact HB.out.size | omega | (simp; done) | (simp; omega) | (have := HB.out.size; simp at *; omega)) _ | with_reducible refine Below.setCell ?_ (by first | exact Nat.le_refl _ | with_reducible exact HB.out.size | omega | (simp; done) | (simp; omega) | (have := HB.out.size; simp at *; omega)) _)) b)
  have HL := Lib.hid (Rd.below (by repeat (first | with_reducible exact HL.out | with_reducible apply Rd.drewN | with_reducible apply Rd.drew | with_reducible apply Rd.alloc)) b)
  clear b
  clear hu
  obtain ⟨pa, ca, rfl, _, ra, _⟩ := HU.out.form
  rw [HM.out] at HU ⊢
  have HA := Lib.hid ra
  clear ra HU
  go_wp2_with fail
  go_loopw [6] (fun i wr => ∃ k : Nat, k ≤ n ∧ i = .int .i64 k ∧ Hid (∀ j, j < k → stepOk A ls j) ∧ Hid (Below w.heap.size w wr) ∧ Hid (Rd wr pa (A3.flat A)) ∧ Hid (Rd wr pl (A3.flat ls))) (fun i _ => n - (intOf i).toNat)
  case atStart => exact ⟨0, Nat.zero_le _, rfl, Lib.hid (fun j h => by omega), HB, HA, HL⟩
  case round =>
    clear HB HA HL
    obtain ⟨k, hk, rfl, HU, HB, HA, HL⟩ := hrel
    by_cases hlt : k < n
    · obtain ⟨b, o, x, rfl, hb, hx, c0, c1, c2⟩ := HL.out.aA3 (k := k) (by rw [HN.out]; exact hlt)
      have HX := Lib.hid hx
      have HXw := Lib.hid (HWl.out x (List.mem_of_getElem? hx))
      have HI := Lib.hid (step_iff (A := A) hx)
      have HP1 := fun w' (hw : Below wr.heap.size wr w') => l7_has A x pa m ca w' HM.out (by omega) (HA.out.below hw) HWa.out HXw.out
      have HP2 := fun w' (hw : Below wr.heap.size wr w') => l7_free (ls.take k) x (some ⟨b, o, none⟩) k cl w' (by rw [List.length_take, HN.out]; omega) (by omega) (Rd.takeA3 (HL.out.below hw) k)
      obtain ⟨ha, hha⟩ : ∃ ha, hasL A x = ha := ⟨_, rfl⟩
      obtain ⟨fr, hfr⟩ : ∃ fr, free (ls.take k) x = fr := ⟨_, rfl⟩
      rw [hha] at HP1 HI
      rw [hfr] at HP2 HI
      replace HP1 := Lib.hid HP1
      replace HP2 := Lib.hid HP2
      have m0 : (0 : Int) ≤ (k : Int) := by omega
      have m1 : (k : Int) < (n : Int) := by omega
      have m2 : (k : Int) ≤ (cl : Int) := by omega
      have m9 : (n : Int) ≤ 1000000000 := by omega
      clear hx hha hfr
      cases ha
      · have HF := Lib.hid (pick_bad (al := A) (ls := ls) (k := k) (by rw [HN.out]; exact hlt) (fun e => by have := (HI.out.1 e).1; cases this))
        go_wp2_with fail
        have qc0 := fun d os => cell_regrown c0 d os
        have qc1 := fun d os => cell_regrown c1 d os
        have qc2 := fun d os => cell_regrown c2 d os
        refine wp_region_quiet_below (by kernel_rfl) (by kernel_rfl) ?_
        repeat (first | go_big_quiet_step ((first | (go_at_call 96; with_reducible exact Calls.regrown_of (HP1.out _ (below_regrown _ _ _))) | (go_at_call 76; with_reducible exact Calls.regrown_of (HP2.out _ (below_regrown _ _ _))))) | quiet_step ((first | (go_at_call 96; with_reducible exact Calls.regrown_of (HP1.out _ (below_regrown _ _ _))) | (go_at_call 76; with_reducible exact Calls.regrown_of (HP2.out _ (below_regrown _ _ _))))))
        refine wpQuiet_nil ?_
        intro w2 hw2
        have b : Below wr.heap.size wr w2 := by obtain ⟨r, hr⟩ := hw2; rw [hr]; exact below_regrown _ _ _
        clear hw2 qc0 qc1 qc2
        have Sw2 := Lib.hid b.size
        have HB := Lib.hid (chain0 (w := w) (by repeat (first | with_reducible exact Below.refl _ _ | with_reducible exact HB.out | with_reducible apply Below.drew | with_reducible apply bdN | with_reducible refine Below.alloc ?_ (by first | exact Nat.le_refl _ | with_reducible exact HB.out.size | omega | (simp; done) | (simp; omega) | (have := HB.out.size; simp at *; omega)) _ | with_reducible refine Below.setCell ?_ (by first | exact Nat.le_refl _ | with_reducible exact HB.out.size | omega | (simp; done) | (simp; omega) | (have := HB.out.size; simp at *; omega)) _)) b)
        have HL := Lib.hid (Rd.below (by repeat (first | with_reducible exact HL.out | with_reducible apply Rd.drewN | with_reducible apply Rd.drew | with_reducible apply Rd.alloc)) b)
        have HA := Lib.hid (Rd.below (by repeat (first | with_reducible exact HA.out | with_reducible apply Rd.drewN | with_reducible apply Rd.drew | with_reducible apply Rd.alloc)) b)
        clear b
        clear c0 c1 c2
        go_wp2_with fail
        go_ret
        exact ⟨ret_bool HF.out.symm, HB.out⟩
      · cases fr
        · have HF := Lib.hid (pick_bad (al := A) (ls := ls) (k := k) (by rw [HN.out]; exact hlt) (fun e => by have := (HI.out.1 e).2.1; cases this))
          go_wp2_with fail
          have qc0 := fun d os => cell_regrown c0 d os
          have qc1 := fun d os => cell_regrown c1 d os
          have qc2 := fun d os => cell_regrown c2 d os
          refine wp_region_quiet_below (by kernel_rfl) (by kernel_rfl) ?_
          repeat (first | go_big_quiet_step ((first | (go_at_call 96; with_reducible exact Calls.regrown_of (HP1.out _ (below_regrown _ _ _))) | (go_at_call 76; with_reducible exact Calls.regrown_of (HP2.out _ (below_regrown _ _ _))))) | quiet_step ((first | (go_at_call 96; with_reducible exact Calls.regrown_of (HP1.out _ (below_regrown _ _ _))) | (go_at_call 76; with_reducible exact Calls.regrown_of (HP2.out _ (below_regrown _ _ _))))))
          refine wpQuiet_nil ?_
          intro w2 hw2
          have b : Below wr.heap.size wr w2 := by obtain ⟨r, hr⟩ := hw2; rw [hr]; exact below_regrown _ _ _
          clear hw2 qc0 qc1 qc2
          have Sw2 := Lib.hid b.size
          have HB := Lib.hid (chain0 (w := w) (by repeat (first | with_reducible exact Below.refl _ _ | with_reducible exact HB.out | with_reducible apply Below.drew | with_reducible apply bdN | with_reducible refine Below.alloc ?_ (by first | exact Nat.le_refl _ | with_reducible exact HB.out.size | omega | (simp; done) | (simp; omega) | (have := HB.out.size; simp at *; omega)) _ | with_reducible refine Below.setCell ?_ (by first | exact Nat.le_refl _ | with_reducible exact HB.out.size | omega | (simp; done) | (simp; omega) | (have := HB.out.size; simp at *; omega)) _)) b)
          have HL := Lib.hid (Rd.below (by repeat (first | with_reducible exact HL.out | with_reducible apply Rd.drewN | with_reducible apply Rd.drew | with_reducible apply Rd.alloc)) b)
          have HA := Lib.hid (Rd.below (by repeat (first | with_reducible exact HA.out | with_reducible apply Rd.drewN | with_reducible apply Rd.drew | with_reducible apply Rd.alloc)) b)
          clear b
          clear c0 c1 c2
          go_wp2_with fail
          go_ret
          exact ⟨ret_bool HF.out.symm, HB.out⟩
        · by_cases hk0 : k = 0
          · have HU2 := Lib.hid (show ∀ j, j < k + 1 → stepOk A ls j from fun j hj => by
              rcases Nat.lt_or_ge j k with h | h
              · exact HU.out j h
              · obtain rfl : j = k := by omega
                exact HI.out.2 ⟨rfl, rfl, fun y h => by omega⟩)
            have hd : decide (0 < k) = false := decide_eq_false (by omega)
            have hd2 : ¬ (0 : Int) < (k : Int) := by omega
            clear hk0
            go_wp2_with fail
            have qc0 := fun d os => cell_regrown c0 d os
            have qc1 := fun d os => cell_regrown c1 d os
            have qc2 := fun d os => cell_regrown c2 d os
            refine wp_region_quiet_below (by kernel_rfl) (by kernel_rfl) ?_
            repeat (first | go_big_quiet_step ((first | (go_at_call 96; with_reducible exact Calls.regrown_of (HP1.out _ (below_regrown _ _ _))) | (go_at_call 76; with_reducible exact Calls.regrown_of (HP2.out _ (below_regrown _ _ _))))) | quiet_step ((first | (go_at_call 96; with_reducible exact Calls.regrown_of (HP1.out _ (below_regrown _ _ _))) | (go_at_call 76; with_reducible exact Calls.regrown_of (HP2.out _ (below_regrown _ _ _))))))
            refine wpQuiet_nil ?_
            intro w2 hw2
            have b : Below wr.heap.size wr w2 := by obtain ⟨r, hr⟩ := hw2; rw [hr]; exact below_regrown _ _ _
            clear hw2 qc0 qc1 qc2
            have Sw2 := Lib.hid b.size
            have HB := Lib.hid (chain0 (w := w) (by repeat (first | with_reducible exact Below.refl _ _ | with_reducible exact HB.out | with_reducible apply Below.drew | with_reducible apply bdN | with_reducible refine Below.alloc ?_ (by first | exact Nat.le_refl _ | with_reducible exact HB.out.size | omega | (simp; done) | (simp; omega) | (have := HB.out.size; simp at *; omega)) _ | with_reducible refine Below.setCell ?_ (by first | exact Nat.le_refl _ | with_reducible exact HB.out.size | omega | (simp; done) | (simp; omega) | (have := HB.out.size; simp at *; omega)) _)) b)
            have HL := Lib.hid (Rd.below (by repeat (first | with_reducible exact HL.out | with_reducible apply Rd.drewN | with_reducible apply Rd.drew | with_reducible apply Rd.alloc)) b)
            have HA := Lib.hid (Rd.below (by repeat (first | with_reducible exact HA.out | with_reducible apply Rd.drewN | with_reducible apply Rd.drew | with_reducible apply Rd.alloc)) b)
            clear b
            clear c0 c1 c2
            go_wp2_with fail
            go_roundw
            case rel => exact ⟨k + 1, by omega, by go_num, HU2, HB, HA, HL⟩
            case measure => simp [intOf]; omega
          · obtain ⟨k', hkk⟩ : ∃ k', k = k' + 1 := ⟨k - 1, by omega⟩
            have HKK := Lib.hid hkk
            obtain ⟨b2, o2, y, hbo, hb2, hy, d0, d1, d2⟩ := HL.out.aA3 (k := k') (by rw [HN.out]; omega)
            injection hbo with hbo
            injection hbo with e1 e2
            subst e1; subst e2
            have HY := Lib.hid hy
            have HP3 := fun w' => l7_before y x w'
            obtain ⟨bf, hbf⟩ : ∃ bf, befL y x = bf := ⟨_, rfl⟩
            rw [hbf] at HP3
            have HBf := Lib.hid hbf
            replace HP3 := Lib.hid HP3
            have hd : decide (0 < k) = true := decide_eq_true (by omega)
            have hd2 : (0 : Int) < (k : Int) := by omega
            have hsub : (k : Int) - 1 = (k' : Int) := by omega
            have q0 : (0 : Int) ≤ (k' : Int) := by omega
            have q1 : (k' : Int) < (n : Int) := by omega
            clear hy hbf hk0 hkk
            cases bf
            · have HF := Lib.hid (pick_bad (al := A) (ls := ls) (k := k) (by rw [HN.out]; exact hlt) (fun e => by have := (HI.out.1 e).2.2 y (by have := HKK.out; omega) (by rw [HKK.out]; exact HY.out); rw [HBf.out] at this; cases this))
              go_wp2_with fail
              have qc0 := fun d os => cell_regrown c0 d os
              have qc1 := fun d os => cell_regrown c1 d os
              have qc2 := fun d os => cell_regrown c2 d os
              have qd0 := fun d os => cell_regrown d0 d os
              have qd1 := fun d os => cell_regrown d1 d os
              have qd2 := fun d os => cell_regrown d2 d os
              refine wp_region_quiet_below (by kernel_rfl) (by kernel_rfl) ?_
              repeat (first | go_big_quiet_step ((first | (go_at_call 96; with_reducible exact Calls.regrown_of (HP1.out _ (below_regrown _ _ _))) | (go_at_call 76; with_reducible exact Calls.regrown_of (HP2.out _ (below_regrown _ _ _))) | (go_at_call 97; with_reducible exact Calls.regrown_of (HP3.out _)))) | quiet_step ((first | (go_at_call 96; with_reducible exact Calls.regrown_of (HP1.out _ (below_regrown _ _ _))) | (go_at_call 76; with_reducible exact Calls.regrown_of (HP2.out _ (below_regrown _ _ _))) | (go_at_call 97; with_reducible exact Calls.regrown_of (HP3.out _)))))
              refine wpQuiet_nil ?_
              intro w2 hw2
              have b : Below wr.heap.size wr w2 := by obtain ⟨r, hr⟩ := hw2; rw [hr]; exact below_regrown _ _ _
              clear hw2 qc0 qc1 qc2 qd0 qd1 qd2
              have Sw2 := Lib.hid b.size
              have HB := Lib.hid (chain0 (w := w) (by repeat (first | with_reducible exact Below.refl _ _ | with_reducible exact HB.out | with_reducible apply Below.drew | with_reducible apply bdN | with_reducible refine Below.alloc ?_ (by first | exact Nat.le_refl _ | with_reducible exact HB.out.size | omega | (simp; done) | (simp; omega) | (have := HB.out.size; simp at *; omega)) _ | with_reducible refine Below.setCell ?_ (by first | exact Nat.le_refl _ | with_reducible exact HB.out.size | omega | (simp; done) | (simp; omega) | (have := HB.out.size; simp at *; omega)) _)) b)
              have HL := Lib.hid (Rd.below (by repeat (first | with_reducible exact HL.out | with_reducible apply Rd.drewN | with_reducible apply Rd.drew | with_reducible apply Rd.alloc)) b)
              have HA := Lib.hid (Rd.below (by repeat (first | with_reducible exact HA.out | with_reducible apply Rd.drewN | with_reducible apply Rd.drew | with_reducible apply Rd.alloc)) b)
              clear b
              clear c0 c1 c2 d0 d1 d2
              go_wp2_with fail
              go_ret
              exact ⟨ret_bool HF.out.symm, HB.out⟩
            · have HU2 := Lib.hid (show ∀ j, j < k + 1 → stepOk A ls j from fun j hj => by
                rcases Nat.lt_or_ge j k with h | h
                · exact HU.out j h
                · obtain rfl : j = k := by omega
                  exact HI.out.2 ⟨rfl, rfl, fun z _ hz => by
                    have e : z = y := by
                      have h1 := HY.out
                      rw [HKK.out, show k' + 1 - 1 = k' from rfl, h1] at hz
                      injection hz with hz; exact hz.symm
                    rw [e]; exact HBf.out⟩)
              go_wp2_with fail
              have qc0 := fun d os => cell_regrown c0 d os
              have qc1 := fun d os => cell_regrown c1 d os
              have qc2 := fun d os => cell_regrown c2 d os
              have qd0 := fun d os => cell_regrown d0 d os
              have qd1 := fun d os => cell_regrown d1 d os
              have qd2 := fun d os => cell_regrown d2 d os
              refine wp_region_quiet_below (by kernel_rfl) (by kernel_rfl) ?_
              repeat (first | go_big_quiet_step ((first | (go_at_call 96; with_reducible exact Calls.regrown_of (HP1.out _ (below_regrown _ _ _))) | (go_at_call 76; with_reducible exact Calls.regrown_of (HP2.out _ (below_regrown _ _ _))) | (go_at_call 97; with_reducible exact Calls.regrown_of (HP3.out _)))) | quiet_step ((first | (go_at_call 96; with_reducible exact Calls.regrown_of (HP1.out _ (below_regrown _ _ _))) | (go_at_call 76; with_reducible exact Calls.regrown_of (HP2.out _ (below_regrown _ _ _))) | (go_at_call 97; with_reducible exact Calls.regrown_of (HP3.out _)))))
              refine wpQuiet_nil ?_
              intro w2 hw2
              have b : Below wr.heap.size wr w2 := by obtain ⟨r, hr⟩ := hw2; rw [hr]; exact below_regrown _ _ _
              clear hw2 qc0 qc1 qc2 qd0 qd1 qd2
              have Sw2 := Lib.hid b.size
              have HB := Lib.hid (chain0 (w := w) (by repeat (first | with_reducible exact Below.refl _ _ | with_reducible exact HB.out | with_reducible apply Below.drew | with_reducible apply bdN | with_reducible refine Below.alloc ?_ (by first | exact Nat.le_refl _ | with_reducible exact HB.out.size | omega | (simp; done) | (simp; omega) | (have := HB.out.size; simp at *; omega)) _ | with_reducible refine Below.setCell ?_ (by first | exact Nat.le_refl _ | with_reducible exact HB.out.size | omega | (simp; done) | (simp; omega) | (have := HB.out.size; simp at *; omega)) _)) b)
              have HL := Lib.hid (Rd.below (by repeat (first | with_reducible exact HL.out | with_reducible apply Rd.drewN | with_reducible apply Rd.drew | with_reducible apply Rd.alloc)) b)
              have HA := Lib.hid (Rd.below (by repeat (first | with_reducible exact HA.out | with_reducible apply Rd.drewN | with_reducible apply Rd.drew | with_reducible apply Rd.alloc)) b)
              clear b
              clear c0 c1 c2 d0 d1 d2
              go_wp2_with fail
              go_roundw
              case rel => exact ⟨k + 1, by omega, by go_num, HU2, HB, HA, HL⟩
              case measure => simp [intOf]; omega
    · obtain rfl : k = n := by omega
      have HF := Lib.hid (pick_good (al := A) (ls := ls) (fun j hj => HU.out j (by rw [← HN.out]; exact hj)))
      go_wp2_with fail
      go_ret
      exact ⟨ret_bool HF.out.symm, HB.out⟩
end Go.Proofs.Ytnmlggieabjapaa.parting
