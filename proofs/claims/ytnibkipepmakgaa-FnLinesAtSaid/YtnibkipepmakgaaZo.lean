/- OpenPairs and CountCrossings: the model's. -/
import Derived.Test.YtnibkipepmakgaaZn
import Derived.Test.YtnibkipepmakgaaZc
import Derived.Test.YtnibkipepmakgaaHs
namespace Go.Proofs.Ytnibkipepmakgaa.parting
open Go.RowKit
open cards maps
set_option linter.unusedVariables false

theorem opR_le (l : List Cd) (i : Nat) : ∀ k, opR l i k ≤ k
  | 0 => Nat.le_refl _
  | k + 1 => by
    have := opR_le l i k
    simp only [opR]
    split <;> omega
theorem opA_le (l : List Cd) (N : Nat) : ∀ k, k ≤ N → opA l k ≤ k * N
  | 0, _ => by simp [opA]
  | k + 1, h => by
    have h1 := opA_le l N k (by omega)
    have h2 := opR_le l k k
    simp only [opA, Nat.add_mul, Nat.one_mul]; omega
theorem crR_le (ls : List A3) (x : A3) : ∀ k, crR ls x k ≤ k
  | 0 => Nat.le_refl _
  | k + 1 => by
    have h1 := crR_le ls x k
    simp only [crR]
    split
    · have h2 : ∀ b, bit b ≤ 1 := fun b => by cases b <;> simp [bit]
      have := h2 (decide (com x ‹A3› = 1))
      omega
    · omega
theorem crA_le (ls : List A3) (N : Nat) : ∀ k, k ≤ N → crA ls k ≤ k * N
  | 0, _ => by simp [crA]
  | k + 1, h => by
    have h1 := crA_le ls N k (by omega)
    simp only [crA, Nat.add_mul, Nat.one_mul]
    split
    · rename_i x _
      have h2 := crR_le ls x k
      omega
    · omega

set_option maxRecDepth 100000 in
set_option maxHeartbeats 4000000 in
theorem spec_op (l : List Cd) (p : Option Addr) (n cp : Nat) (w : World) (hn : l.length = n) (hl : n ≤ 1000000000) (hr : Rd w p (flat l)) (hcp : n ≤ cp) :
    Calls Try.prog 11 #[.slice p n cp] w fun e w' => e = .returned (.tuple #[.int .i64 (opnR l).1, .bool (opnR l).2]) ∧ Below w.heap.size w w' := by
  have HN := Lib.hid hn
  have HR0 := Lib.hid hr
  have HR := Lib.hid hr
  have HHd := Lib.hid (fun w' (hw : Rd w' p (flat l)) => l2_hand l p n cp w' hn hl hw)
  clear hn hr hcp
  cases hh : handB l
  · have HT := Lib.hid (show opnR l = (0, false) by unfold opnR; rw [if_neg (by simp [hh])])
    rw [hh] at HHd
    clear hh
    by_cases hz : n = 0
    · subst hz
      go_enter Try.func11, Try.ntmps11
      go_wp2_with fail
      go_loopw [4, 5, 6] (fun m i _ wr => i = .int .i64 0 ∧ m = .int .i64 0 ∧ Hid (Below w.heap.size w wr)) (fun _ i _ _ => 0 - (intOf i).toNat)
      case atStart => exact ⟨rfl, rfl, Lib.hid (Below.refl _ _)⟩
      case round =>
        clear HR
        obtain ⟨rfl, rfl, HB⟩ := hrel
        have HR := Lib.hid (HR0.out.below HB.out)
        go_wp2_with fail
        refine ((HHd.out _ (by repeat (first | with_reducible exact HR.out | with_reducible apply Rd.drewN | with_reducible apply Rd.drew | with_reducible apply Rd.alloc)))).mono ?_
        rintro e w1 ⟨rfl, b⟩
        have Sw1 := Lib.hid b.size
        have HB := Lib.hid (chain0 (w := w) (by repeat (first | with_reducible exact Below.refl _ _ | with_reducible exact HB.out | with_reducible apply Below.drew | with_reducible apply bdN | with_reducible refine Below.alloc ?_ (by first | exact Nat.le_refl _ | with_reducible exact HB.out.size | omega | (simp; done) | (simp; omega) | (have := HB.out.size; simp at *; omega)) _ | with_reducible refine Below.setCell ?_ (by first | exact Nat.le_refl _ | with_reducible exact HB.out.size | omega | (simp; done) | (simp; omega) | (have := HB.out.size; simp at *; omega)) _)) b)
        have HR := Lib.hid (Rd.below (by repeat (first | with_reducible exact HR.out | with_reducible apply Rd.drewN | with_reducible apply Rd.drew | with_reducible apply Rd.alloc)) b)
        clear b
        go_wp2_with fail
        go_ret2
        exact ⟨ret_ib (by rw [HT.out]), HB.out⟩
    · have hn0 : (0 : Int) < (n : Int) := by omega
      go_enter Try.func11, Try.ntmps11
      go_wp2_with fail
      go_loopw [4, 5, 6] (fun m i _ wr => i = .int .i64 0 ∧ m = .int .i64 0 ∧ Hid (Below w.heap.size w wr)) (fun _ i _ _ => 0 - (intOf i).toNat)
      case atStart => exact ⟨rfl, rfl, Lib.hid (Below.refl _ _)⟩
      case round =>
        clear HR
        obtain ⟨rfl, rfl, HB⟩ := hrel
        have HR := Lib.hid (HR0.out.below HB.out)
        go_wp2_with fail
        refine ((HHd.out _ (by repeat (first | with_reducible exact HR.out | with_reducible apply Rd.drewN | with_reducible apply Rd.drew | with_reducible apply Rd.alloc)))).mono ?_
        rintro e w1 ⟨rfl, b⟩
        have Sw1 := Lib.hid b.size
        have HB := Lib.hid (chain0 (w := w) (by repeat (first | with_reducible exact Below.refl _ _ | with_reducible exact HB.out | with_reducible apply Below.drew | with_reducible apply bdN | with_reducible refine Below.alloc ?_ (by first | exact Nat.le_refl _ | with_reducible exact HB.out.size | omega | (simp; done) | (simp; omega) | (have := HB.out.size; simp at *; omega)) _ | with_reducible refine Below.setCell ?_ (by first | exact Nat.le_refl _ | with_reducible exact HB.out.size | omega | (simp; done) | (simp; omega) | (have := HB.out.size; simp at *; omega)) _)) b)
        have HR := Lib.hid (Rd.below (by repeat (first | with_reducible exact HR.out | with_reducible apply Rd.drewN | with_reducible apply Rd.drew | with_reducible apply Rd.alloc)) b)
        clear b
        go_wp2_with fail
        refine ((HHd.out _ (by repeat (first | with_reducible exact HR.out | with_reducible apply Rd.drewN | with_reducible apply Rd.drew | with_reducible apply Rd.alloc)))).mono ?_
        rintro e w2 ⟨rfl, b⟩
        have Sw2 := Lib.hid b.size
        have HB := Lib.hid (chain0 (w := w) (by repeat (first | with_reducible exact Below.refl _ _ | with_reducible exact HB.out | with_reducible apply Below.drew | with_reducible apply bdN | with_reducible refine Below.alloc ?_ (by first | exact Nat.le_refl _ | with_reducible exact HB.out.size | omega | (simp; done) | (simp; omega) | (have := HB.out.size; simp at *; omega)) _ | with_reducible refine Below.setCell ?_ (by first | exact Nat.le_refl _ | with_reducible exact HB.out.size | omega | (simp; done) | (simp; omega) | (have := HB.out.size; simp at *; omega)) _)) b)
        have HR := Lib.hid (Rd.below (by repeat (first | with_reducible exact HR.out | with_reducible apply Rd.drewN | with_reducible apply Rd.drew | with_reducible apply Rd.alloc)) b)
        clear b
        go_wp2_with fail
        go_ret2
        exact ⟨ret_ib (by rw [HT.out]), HB.out⟩
  · have HT := Lib.hid (show opnR l = (((opA l n : Nat) : Int), true) by unfold opnR; rw [if_pos hh, HN.out])
    have HH := Lib.hid (handB_true.1 hh)
    have HS := Lib.hid HH.out.2.2
    have HK := Lib.hid HH.out.2.1
    have h27 : n ≤ 27 := by have := HH.out.1; have := HN.out; omega
    have hal := fun k (hk : k ≤ n) => opA_le l 27 k (by omega)
    replace hal := Lib.hid hal
    rw [hh] at HHd
    clear hh
    go_enter Try.func11, Try.ntmps11
    go_wp2_with fail
    go_loopw [4, 5, 6] (fun m i _ wr => ∃ k : Nat, k ≤ n ∧ i = .int .i64 k ∧ m = .int .i64 (opA l k : Nat) ∧ Hid (Below w.heap.size w wr)) (fun _ i _ _ => n - (intOf i).toNat)
    case atStart => exact ⟨0, Nat.zero_le _, rfl, rfl, Below.refl _ _⟩
    case round =>
      obtain ⟨k, hk, rfl, rfl, HB⟩ := hrel
      have hak := hal.out k hk
      have HE : Hid (opA l (k + 1) = opA l k + opR l k k) := Lib.hid rfl
      have HEn : Hid (k = n → opA l k = opA l n) := Lib.hid (fun h => by rw [h])
      obtain ⟨s, hs⟩ : ∃ s, opA l k = s := ⟨_, rfl⟩
      rw [hs] at hak HE HEn ⊢
      have s1 : s ≤ 729 := by omega
      clear hs hak
      by_cases hlt : k < n
      · go_wp2_with fail
        refine ((HHd.out _ (HR0.out.below HB.out))).mono ?_
        rintro e w1 ⟨rfl, b⟩
        have Sw1 := Lib.hid b.size
        have HB := Lib.hid (chain0 (w := w) (by repeat (first | with_reducible exact Below.refl _ _ | with_reducible exact HB.out | with_reducible apply Below.drew | with_reducible apply bdN | with_reducible refine Below.alloc ?_ (by first | exact Nat.le_refl _ | with_reducible exact HB.out.size | omega | (simp; done) | (simp; omega) | (have := HB.out.size; simp at *; omega)) _ | with_reducible refine Below.setCell ?_ (by first | exact Nat.le_refl _ | with_reducible exact HB.out.size | omega | (simp; done) | (simp; omega) | (have := HB.out.size; simp at *; omega)) _)) b)
        clear b
        go_wp2_with fail
        go_loopw [4, 6] (fun m i wr => ∃ j : Nat, j ≤ k ∧ i = .int .i64 j ∧ m = .int .i64 (s + opR l k j : Nat) ∧ Hid (Below w.heap.size w wr)) (fun _ i _ => k - (intOf i).toNat)
        case atStart => exact ⟨0, Nat.zero_le _, rfl, rfl, HB⟩
        case round =>
          clear HB
          obtain ⟨j, hj, rfl, rfl, HB⟩ := hrel
          have hrl := opR_le l k j
          have HF : Hid (opR l k (j + 1) = opR l k j + (if hasT l k j = true then 0 else 1)) := Lib.hid rfl
          have HFn : Hid (j = k → opR l k j = opR l k k) := Lib.hid (fun h => by rw [h])
          obtain ⟨r, hr⟩ : ∃ r, opR l k j = r := ⟨_, rfl⟩
          rw [hr] at hrl HF HFn ⊢
          have r1 : r ≤ 27 := by omega
          clear hr hrl
          by_cases hjt : j < k
          · have HR := Lib.hid (HR0.out.below HB.out)
            obtain ⟨b, o, x, rfl, hb, hx, c0, c1, c2, c3⟩ := HR.out.card (k := k) (by rw [HN.out]; omega)
            obtain ⟨b2, o2, y, hbo, hb2, hy, d0, d1, d2, d3⟩ := HR.out.card (k := j) (by rw [HN.out]; omega)
            injection hbo with hbo
            injection hbo with e1 e2
            subst e1; subst e2
            have HX := Lib.hid (ok_at HK.out hx)
            have HY := Lib.hid (ok_at HK.out hy)
            have hht : hasT l k j = there l (third x y) := by unfold hasT; rw [hx, hy]
            rw [hht] at HF
            have HP := fun w' (hw : Below wr.heap.size wr w') => l2_has l (third x y) (some ⟨b, o, none⟩) n cp w' HN.out (by omega) (HR.out.below hw) HK.out (third_ok _ _) HS.out
            obtain ⟨t, ht⟩ : ∃ t, there l (third x y) = t := ⟨_, rfl⟩
            rw [ht] at HP HF
            replace HP := Lib.hid HP
            clear hx hy hht ht
            have m0 : (0 : Int) ≤ (k : Int) := by omega
            have m1 : (k : Int) < (n : Int) := by omega
            have m2 : (0 : Int) ≤ (j : Int) := by omega
            have m3 : (j : Int) < (n : Int) := by omega
            have m4 : (j : Int) < (k : Int) := by omega
            cases t
            · rw [if_neg (by simp)] at HF
              go_wp2_with fail
              have qc0 := fun d os => cell_regrown c0 d os
              have qc1 := fun d os => cell_regrown c1 d os
              have qc2 := fun d os => cell_regrown c2 d os
              have qc3 := fun d os => cell_regrown c3 d os
              have qd0 := fun d os => cell_regrown d0 d os
              have qd1 := fun d os => cell_regrown d1 d os
              have qd2 := fun d os => cell_regrown d2 d os
              have qd3 := fun d os => cell_regrown d3 d os
              refine wp_region_quiet_below (by kernel_rfl) (by kernel_rfl) ?_
              repeat (first | go_big_quiet_step ((first | (go_at_call 30; with_reducible exact Calls.regrown_of (l2_third _ _ _ HX.out HY.out)) | (go_at_call 29; with_reducible exact Calls.regrown_of (HP.out _ (below_regrown _ _ _))))) | quiet_step ((first | (go_at_call 30; with_reducible exact Calls.regrown_of (l2_third _ _ _ HX.out HY.out)) | (go_at_call 29; with_reducible exact Calls.regrown_of (HP.out _ (below_regrown _ _ _))))))
              refine wpQuiet_nil ?_
              intro w3 hw2
              have b : Below wr.heap.size wr w3 := by obtain ⟨r, hr⟩ := hw2; rw [hr]; exact below_regrown _ _ _
              clear hw2 qc0 qc1 qc2 qc3 qd0 qd1 qd2 qd3
              have Sw3 := Lib.hid b.size
              have HB := Lib.hid (chain0 (w := w) (by repeat (first | with_reducible exact Below.refl _ _ | with_reducible exact HB.out | with_reducible apply Below.drew | with_reducible apply bdN | with_reducible refine Below.alloc ?_ (by first | exact Nat.le_refl _ | with_reducible exact HB.out.size | omega | (simp; done) | (simp; omega) | (have := HB.out.size; simp at *; omega)) _ | with_reducible refine Below.setCell ?_ (by first | exact Nat.le_refl _ | with_reducible exact HB.out.size | omega | (simp; done) | (simp; omega) | (have := HB.out.size; simp at *; omega)) _)) b)
              clear b
              clear c0 c1 c2 c3 d0 d1 d2 d3
              go_wp2_with fail
              go_roundw
              case rel => exact ⟨j + 1, by omega, by go_num, by rw [HF.out]; go_num, HB⟩
              case measure => simp [intOf]; omega
            · rw [if_pos rfl] at HF
              go_wp2_with fail
              have qc0 := fun d os => cell_regrown c0 d os
              have qc1 := fun d os => cell_regrown c1 d os
              have qc2 := fun d os => cell_regrown c2 d os
              have qc3 := fun d os => cell_regrown c3 d os
              have qd0 := fun d os => cell_regrown d0 d os
              have qd1 := fun d os => cell_regrown d1 d os
              have qd2 := fun d os => cell_regrown d2 d os
              have qd3 := fun d os => cell_regrown d3 d os
              refine wp_region_quiet_below (by kernel_rfl) (by kernel_rfl) ?_
              repeat (first | go_big_quiet_step ((first | (go_at_call 30; with_reducible exact Calls.regrown_of (l2_third _ _ _ HX.out HY.out)) | (go_at_call 29; with_reducible exact Calls.regrown_of (HP.out _ (below_regrown _ _ _))))) | quiet_step ((first | (go_at_call 30; with_reducible exact Calls.regrown_of (l2_third _ _ _ HX.out HY.out)) | (go_at_call 29; with_reducible exact Calls.regrown_of (HP.out _ (below_regrown _ _ _))))))
              refine wpQuiet_nil ?_
              intro w3 hw2
              have b : Below wr.heap.size wr w3 := by obtain ⟨r, hr⟩ := hw2; rw [hr]; exact below_regrown _ _ _
              clear hw2 qc0 qc1 qc2 qc3 qd0 qd1 qd2 qd3
              have Sw3 := Lib.hid b.size
              have HB := Lib.hid (chain0 (w := w) (by repeat (first | with_reducible exact Below.refl _ _ | with_reducible exact HB.out | with_reducible apply Below.drew | with_reducible apply bdN | with_reducible refine Below.alloc ?_ (by first | exact Nat.le_refl _ | with_reducible exact HB.out.size | omega | (simp; done) | (simp; omega) | (have := HB.out.size; simp at *; omega)) _ | with_reducible refine Below.setCell ?_ (by first | exact Nat.le_refl _ | with_reducible exact HB.out.size | omega | (simp; done) | (simp; omega) | (have := HB.out.size; simp at *; omega)) _)) b)
              clear b
              clear c0 c1 c2 c3 d0 d1 d2 d3
              go_wp2_with fail
              go_roundw
              case rel => exact ⟨j + 1, by omega, by go_num, by rw [HF.out]; rfl, HB⟩
              case measure => simp [intOf]; omega
          · have hjk : j = k := by omega
            have HE2 := Lib.hid (show opA l (k + 1) = s + r by rw [HE.out, ← HFn.out hjk])
            have m4 : ¬ (j : Int) < (k : Int) := by omega
            clear hjk
            go_wp2_with fail
            go_roundw
            case rel => exact ⟨k + 1, by omega, by go_num, by rw [HE2.out], HB⟩
            case measure => simp [intOf]; omega
      · have hkn : k = n := by omega
        have HE2 := HEn.out hkn
        have m4 : ¬ (k : Int) < (n : Int) := by omega
        replace HE2 := Lib.hid HE2
        clear hkn
        go_wp2_with fail
        refine ((HHd.out _ (HR0.out.below HB.out))).mono ?_
        rintro e w1 ⟨rfl, b⟩
        have Sw1 := Lib.hid b.size
        have HB := Lib.hid (chain0 (w := w) (by repeat (first | with_reducible exact Below.refl _ _ | with_reducible exact HB.out | with_reducible apply Below.drew | with_reducible apply bdN | with_reducible refine Below.alloc ?_ (by first | exact Nat.le_refl _ | with_reducible exact HB.out.size | omega | (simp; done) | (simp; omega) | (have := HB.out.size; simp at *; omega)) _ | with_reducible refine Below.setCell ?_ (by first | exact Nat.le_refl _ | with_reducible exact HB.out.size | omega | (simp; done) | (simp; omega) | (have := HB.out.size; simp at *; omega)) _)) b)
        clear b
        go_wp2_with fail
        go_ret2
        exact ⟨ret_ib (by rw [HT.out, HE2.out]), HB.out⟩
end Go.Proofs.Ytnibkipepmakgaa.parting
