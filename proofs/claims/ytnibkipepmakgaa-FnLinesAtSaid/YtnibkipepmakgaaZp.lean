/- CountCrossings: the model's. -/
import Derived.Test.YtnibkipepmakgaaZo
namespace Go.Proofs.Ytnibkipepmakgaa.parting
open Go.RowKit
open cards maps
set_option linter.unusedVariables false

theorem crR_step {ls : List A3} {x y : A3} {k : Nat} (h : ls[k]? = some y) : crR ls x (k + 1) = crR ls x k + bit (decide (com x y = 1)) := by rw [crR, h]
theorem crA_step {ls : List A3} {x : A3} {k : Nat} (h : ls[k]? = some x) : crA ls (k + 1) = crA ls k + crR ls x k := by rw [crA, h]
set_option maxRecDepth 100000 in
set_option maxHeartbeats 4000000 in
theorem spec_cc (l : List Cd) (p : Option Addr) (n cp : Nat) (w : World) (hn : l.length = n) (hl : n ≤ 1000000000) (hr : Rd w p (flat l)) (hcp : n ≤ cp) :
    Calls Try.prog 13 #[.slice p n cp] w fun e w' => e = .returned (.tuple #[.int .i64 (ccR l).1, .bool (ccR l).2]) ∧ Below w.heap.size w w' := by
  have HN := Lib.hid hn
  have HR := Lib.hid hr
  clear hn hr hcp
  go_enter Try.func13, Try.ntmps13
  go_wp2_with fail
  refine ((l2_hand l p n cp _ HN.out hl (by repeat (first | with_reducible exact HR.out | with_reducible apply Rd.drewN | with_reducible apply Rd.drew | with_reducible apply Rd.alloc)))).mono ?_
  rintro e w1 ⟨rfl, b⟩
  have Sw1 := Lib.hid b.size
  have HB := Lib.hid (chain0 (w := w) (by repeat (first | with_reducible exact Below.refl _ _ | with_reducible exact HB.out | with_reducible apply Below.drew | with_reducible apply bdN | with_reducible refine Below.alloc ?_ (by first | exact Nat.le_refl _ | with_reducible exact HB.out.size | omega | (simp; done) | (simp; omega) | (have := HB.out.size; simp at *; omega)) _ | with_reducible refine Below.setCell ?_ (by first | exact Nat.le_refl _ | with_reducible exact HB.out.size | omega | (simp; done) | (simp; omega) | (have := HB.out.size; simp at *; omega)) _)) b)
  have HR := Lib.hid (Rd.below (by repeat (first | with_reducible exact HR.out | with_reducible apply Rd.drewN | with_reducible apply Rd.drew | with_reducible apply Rd.alloc)) b)
  clear b
  cases hh : handB l
  · have HT := Lib.hid (show ccR l = (0, false) by unfold ccR; rw [if_neg (by simp [hh])])
    clear hh
    go_wp2_with fail
    go_ret2
    exact ⟨ret_ib (by rw [HT.out]), HB.out⟩
  · have HT := Lib.hid (show ccR l = (((crA (allL l n) (allL l n).length : Nat) : Int), true) by unfold ccR; rw [if_pos hh, HN.out])
    have HH := Lib.hid (handB_true.1 hh)
    have h27 : n ≤ 27 := by have := HH.out.1; have := HN.out; omega
    have hlen := lines_len HH.out
    rw [HN.out] at hlen
    have HL := l2_lines l p n cp w1 HN.out h27 HR.out HH.out.2.1 HH.out.2.2
    obtain ⟨A, hA⟩ : ∃ A, allL l n = A := ⟨_, rfl⟩
    rw [hA] at HT HL hlen
    replace HL := Lib.hid HL
    obtain ⟨m, hm⟩ : ∃ m, A.length = m := ⟨_, rfl⟩
    rw [hm] at hlen HT
    have HM := Lib.hid hm
    have hal := fun k (hk : k ≤ m) => crA_le A 729 k (by omega)
    replace hal := Lib.hid hal
    clear hA hm hh
    have hm1 : m ≤ 729 := hlen
    clear hlen
    go_wp2_with fail
    refine (HL.out).mono ?_
    rintro e w2 ⟨u, rfl, hu, b⟩
    have HU := Lib.hid hu
    have Sw2 := Lib.hid b.size
    have HB := Lib.hid (chain0 (w := w) (by repeat (first | with_reducible exact Below.refl _ _ | with_reducible exact HB.out | with_reducible apply Below.drew | with_reducible apply bdN | with_reducible refine Below.alloc ?_ (by first | exact Nat.le_refl _ | with_reducible exact HB.out.size | omega | (simp; done) | (simp; omega) | (have := HB.out.size; simp at *; omega)) _ | with_reducible refine Below.setCell ?_ (by first | exact Nat.le_refl _ | with_reducible exact HB.out.size | omega | (simp; done) | (simp; omega) | (have := HB.out.size; simp at *; omega)) _)) b)
    have HR := Lib.hid (Rd.below (by repeat (first | with_reducible exact HR.out | with_reducible apply Rd.drewN | with_reducible apply Rd.drew | with_reducible apply Rd.alloc)) b)
    clear b
    clear hu
    obtain ⟨pa, ca, rfl, _, ra, _⟩ := HU.out.form
    rw [HM.out] at HU ⊢
    have HA := Lib.hid ra
    clear ra HU
    go_wp2_with fail
    go_loopw [4, 6, 7] (fun v i _ wr => ∃ k : Nat, k ≤ m ∧ i = .int .i64 k ∧ v = .int .i64 (crA A k : Nat) ∧ Hid (Below w.heap.size w wr) ∧ Hid (Rd wr pa (A3.flat A))) (fun _ i _ _ => m - (intOf i).toNat)
    case atStart => exact ⟨0, Nat.zero_le _, rfl, rfl, HB, HA⟩
    case round =>
      clear HB HA
      obtain ⟨k, hk, rfl, rfl, HB, HA⟩ := hrel
      have hak := hal.out k hk
      have hk7 : k * 729 ≤ 531441 := Nat.mul_le_mul_right 729 (show k ≤ 729 by omega)
      have HEn : Hid (k = m → crA A k = crA A m) := Lib.hid (fun h => by rw [h])
      by_cases hlt : k < m
      · obtain ⟨b, o, x, rfl, hb, hx, c0, c1, c2⟩ := HA.out.aA3 (k := k) (by rw [HM.out]; exact hlt)
        have HE := Lib.hid (crA_step hx)
        have HX := Lib.hid hx
        obtain ⟨s, hs⟩ : ∃ s, crA A k = s := ⟨_, rfl⟩
        rw [hs] at hak HE ⊢
        have s1 : s ≤ 531441 := by omega
        have HRl := Lib.hid (crR_le A x)
        clear hs hak hk7 hx c0 c1 c2 HEn hb
        go_wp2_with fail
        go_loopw [4, 7] (fun v i wr => ∃ j : Nat, j ≤ k ∧ i = .int .i64 j ∧ v = .int .i64 (s + crR A x j : Nat) ∧ Hid (Below w.heap.size w wr) ∧ Hid (Rd wr (some ⟨b, o, none⟩) (A3.flat A))) (fun _ i _ => k - (intOf i).toNat)
        case atStart => exact ⟨0, Nat.zero_le _, rfl, rfl, HB, HA⟩
        case round =>
          clear HB HA
          obtain ⟨j, hj, rfl, rfl, HB, HA⟩ := hrel
          have hrl := HRl.out j
          have HFn : Hid (j = k → crR A x j = crR A x k) := Lib.hid (fun h => by rw [h])
          by_cases hjt : j < k
          · obtain ⟨c0, c1, c2⟩ : wr.cell? ⟨b, o + k * 3, none⟩ = some (.int .i64 x.a) ∧ wr.cell? ⟨b, o + k * 3 + 1, none⟩ = some (.int .i64 x.b) ∧ wr.cell? ⟨b, o + k * 3 + 2, none⟩ = some (.int .i64 x.c) := by
              obtain ⟨b', o', x', e, _, hx', h0, h1, h2⟩ := HA.out.aA3 (k := k) (by rw [HM.out]; exact hlt)
              injection e with e
              injection e with e1 e2
              subst e1; subst e2
              rw [HX.out] at hx'; injection hx' with hx'; subst hx'
              exact ⟨h0, h1, h2⟩
            obtain ⟨b2, o2, y, hbo, hb2, hy, d0, d1, d2⟩ := HA.out.aA3 (k := j) (by rw [HM.out]; omega)
            injection hbo with hbo
            injection hbo with e1 e2
            subst e1; subst e2
            have HF := crR_step (x := x) hy
            have HC := fun w => l7_common x y w
            obtain ⟨z, hz⟩ : ∃ z, com x y = z := ⟨_, rfl⟩
            rw [hz] at HF HC
            replace HC := Lib.hid HC
            replace HF := Lib.hid HF
            obtain ⟨r, hr⟩ : ∃ r, crR A x j = r := ⟨_, rfl⟩
            rw [hr] at HF hrl ⊢
            have r1 : r ≤ 729 := by omega
            have m0 : (0 : Int) ≤ (k : Int) := by omega
            have m1 : (k : Int) < (m : Int) := by omega
            have m2 : (0 : Int) ≤ (j : Int) := by omega
            have m3 : (j : Int) < (m : Int) := by omega
            have m4 : (j : Int) < (k : Int) := by omega
            clear hy hz hr hrl HFn
            by_cases h1 : z = 1
            · have HF2 := Lib.hid (show crR A x (j + 1) = r + 1 by rw [HF.out, h1]; rfl)
              have hd : ((z : Int) == 1) = true := by rw [h1]; rfl
              clear h1
              go_wp2_with fail
              have qc0 := fun d os => cell_regrown c0 d os
              have qc1 := fun d os => cell_regrown c1 d os
              have qc2 := fun d os => cell_regrown c2 d os
              have qd0 := fun d os => cell_regrown d0 d os
              have qd1 := fun d os => cell_regrown d1 d os
              have qd2 := fun d os => cell_regrown d2 d os
              refine wp_region_quiet_below (by kernel_rfl) (by kernel_rfl) ?_
              repeat (first | go_big_quiet_step ((go_at_call 31; with_reducible exact Calls.regrown_of (HC.out _))) | quiet_step ((go_at_call 31; with_reducible exact Calls.regrown_of (HC.out _))))
              refine wpQuiet_nil ?_
              intro w3 hw2
              have b : Below wr.heap.size wr w3 := by obtain ⟨r, hr⟩ := hw2; rw [hr]; exact below_regrown _ _ _
              clear hw2 qc0 qc1 qc2 qd0 qd1 qd2
              have Sw3 := Lib.hid b.size
              have HB := Lib.hid (chain0 (w := w) (by repeat (first | with_reducible exact Below.refl _ _ | with_reducible exact HB.out | with_reducible apply Below.drew | with_reducible apply bdN | with_reducible refine Below.alloc ?_ (by first | exact Nat.le_refl _ | with_reducible exact HB.out.size | omega | (simp; done) | (simp; omega) | (have := HB.out.size; simp at *; omega)) _ | with_reducible refine Below.setCell ?_ (by first | exact Nat.le_refl _ | with_reducible exact HB.out.size | omega | (simp; done) | (simp; omega) | (have := HB.out.size; simp at *; omega)) _)) b)
              have HA := Lib.hid (Rd.below (by repeat (first | with_reducible exact HA.out | with_reducible apply Rd.drewN | with_reducible apply Rd.drew | with_reducible apply Rd.alloc)) b)
              clear b
              clear c0 c1 c2 d0 d1 d2
              go_wp2_with fail
              go_roundw
              case rel => exact ⟨j + 1, by omega, by go_num, by rw [HF2.out]; go_num, HB, HA⟩
              case measure => simp [intOf]; omega
            · have HF2 := Lib.hid (show crR A x (j + 1) = r by rw [HF.out]; simp [bit, h1])
              have hd : ((z : Int) == 1) = false := beq_eq_false_iff_ne.2 (by omega)
              clear h1
              go_wp2_with fail
              have qc0 := fun d os => cell_regrown c0 d os
              have qc1 := fun d os => cell_regrown c1 d os
              have qc2 := fun d os => cell_regrown c2 d os
              have qd0 := fun d os => cell_regrown d0 d os
              have qd1 := fun d os => cell_regrown d1 d os
              have qd2 := fun d os => cell_regrown d2 d os
              refine wp_region_quiet_below (by kernel_rfl) (by kernel_rfl) ?_
              repeat (first | go_big_quiet_step ((go_at_call 31; with_reducible exact Calls.regrown_of (HC.out _))) | quiet_step ((go_at_call 31; with_reducible exact Calls.regrown_of (HC.out _))))
              refine wpQuiet_nil ?_
              intro w3 hw2
              have b : Below wr.heap.size wr w3 := by obtain ⟨r, hr⟩ := hw2; rw [hr]; exact below_regrown _ _ _
              clear hw2 qc0 qc1 qc2 qd0 qd1 qd2
              have Sw3 := Lib.hid b.size
              have HB := Lib.hid (chain0 (w := w) (by repeat (first | with_reducible exact Below.refl _ _ | with_reducible exact HB.out | with_reducible apply Below.drew | with_reducible apply bdN | with_reducible refine Below.alloc ?_ (by first | exact Nat.le_refl _ | with_reducible exact HB.out.size | omega | (simp; done) | (simp; omega) | (have := HB.out.size; simp at *; omega)) _ | with_reducible refine Below.setCell ?_ (by first | exact Nat.le_refl _ | with_reducible exact HB.out.size | omega | (simp; done) | (simp; omega) | (have := HB.out.size; simp at *; omega)) _)) b)
              have HA := Lib.hid (Rd.below (by repeat (first | with_reducible exact HA.out | with_reducible apply Rd.drewN | with_reducible apply Rd.drew | with_reducible apply Rd.alloc)) b)
              clear b
              clear c0 c1 c2 d0 d1 d2
              go_wp2_with fail
              go_roundw
              case rel => exact ⟨j + 1, by omega, by go_num, by rw [HF2.out]; go_num, HB, HA⟩
              case measure => simp [intOf]; omega
          · have hjk : j = k := by omega
            have HE2 := Lib.hid (show crA A (k + 1) = s + crR A x j by rw [HE.out, ← HFn.out hjk])
            have m4 : ¬ (j : Int) < (k : Int) := by omega
            clear hjk
            go_wp2_with fail
            go_roundw
            case rel => exact ⟨k + 1, by omega, by go_num, by rw [HE2.out], HB, HA⟩
            case measure => simp [intOf]; omega
      · have HE2 := Lib.hid (HEn.out (by omega))
        have m4 : ¬ (k : Int) < (m : Int) := by omega
        go_wp2_with fail
        go_ret2
        exact ⟨ret_ib (by rw [HT.out, HE2.out]), HB.out⟩
end Go.Proofs.Ytnibkipepmakgaa.parting
