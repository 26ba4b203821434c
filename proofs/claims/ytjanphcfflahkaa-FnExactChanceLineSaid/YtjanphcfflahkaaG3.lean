/- The model's fractions and choices. -/
import Derived.Test.YtjanphcfflahkaaG2
namespace Go.Proofs.Ytjanphcfflahkaa.chance
open Go.RowKit
open cards reg
set_option linter.unusedVariables false

set_option maxRecDepth 100000 in
set_option maxHeartbeats 1000000 in
theorem most_1 (d : Nat) (w : World) (hd : 0 < d) : Calls Try.prog 98 #[.int .i64 d, .int .i64 1] w fun e w' => e = .returned (.int .i64 d) ∧ Below w.heap.size w w' := by
  by_cases h : (1 : Int) < (d : Int)
  · go_enter Try.func98, Try.ntmps98
    go_wp2_with fail
    go_ret
    exact ⟨rfl, Below.refl _ _⟩
  · obtain rfl : d = 1 := by omega
    go_enter Try.func98, Try.ntmps98
    go_wp2_with fail
    go_ret
    exact ⟨rfl, Below.refl _ _⟩

set_option maxRecDepth 100000 in
set_option maxHeartbeats 2000000 in
theorem l9_cut (c a : Nat) (w : World) (ha : 0 < a) (hc : c ≤ 1000000000000000) (ha2 : a ≤ 1000000000000000) :
    Calls Try.prog 50 #[.int .i64 c, .int .i64 a] w fun e w' => e = .returned (.agg (fv (frac c a))) ∧ Below w.heap.size w w' := by
  obtain ⟨fr, hfr⟩ : ∃ fr, frac c a = fr := ⟨_, rfl⟩
  have HFr := Lib.hid hfr
  rw [hfr]
  clear hfr
  have HB0 : Hid (Below w.heap.size w (w.alloc (.cells zv 31))) := Lib.hid ((Below.refl _ _).alloc (Nat.le_refl _) _)
  have K0 : Hid (VB (w.alloc (.cells zv 31)) w.heap.size 31 zv) := Lib.hid (VB.newAt rfl rfl)
  have hgp : 0 < Nat.gcd c a := Nat.gcd_pos_of_pos_right _ ha
  have HM := Lib.hid (fun w => most_1 (Nat.gcd c a) w hgp)
  go_enter Try.func50, Try.ntmps50
  go_upto_region 2 with fail
  go_loopw [5, 6] (fun d r wr => ∃ D R : Nat, d = .int .i64 D ∧ r = .int .i64 R ∧ D ≤ 1000000000000000 ∧ R ≤ 1000000000000000 ∧ Hid (Nat.gcd R D = Nat.gcd c a) ∧ Hid (Below w.heap.size w wr) ∧ Hid (VB wr w.heap.size 31 zv)) (fun _ r _ => (intOf r).toNat)
  case atStart => exact ⟨c, a, rfl, rfl, by omega, by omega, Lib.hid (Nat.gcd_comm _ _), HB0, K0⟩
  case round =>
    clear HB0 K0
    obtain ⟨D, R, rfl, rfl, hD2, hR2, HG, HB, K0⟩ := hrel
    by_cases hlt : 0 < R
    · have m0 : (0 : Int) < (R : Int) := by omega
      have HG2 : Hid (Nat.gcd (D % R) R = Nat.gcd c a) := Lib.hid (by rw [← gcd_rec]; exact HG.out)
      have hmod := Nat.mod_lt D hlt
      have m1 : ¬ R = 0 := by omega
      have m2 : ¬ (R : Int) = 0 := by omega
      go_upto_region 3 with fail
      refine wp_region_quiet_below (by kernel_rfl) (by kernel_rfl) ?_
      repeat (first | go_big_quiet_step ((fail)) | quiet_step ((fail)))
      refine wpQuiet_nil ?_
      intro w3 hw2
      have b : Below wr.heap.size wr w3 := by obtain ⟨r, hr⟩ := hw2; rw [hr]; exact below_regrown _ _ _
      clear hw2
      have Sw3 := Lib.hid b.size
      have HB := Lib.hid (chain0 (w := w) (by repeat (first | with_reducible exact Below.refl _ _ | with_reducible exact HB.out | with_reducible apply Below.drew | with_reducible apply bdN | with_reducible refine Below.alloc ?_ (by first | exact Nat.le_refl _ | with_reducible exact HB.out.size | omega | (simp; done) | (simp; omega) | (have := HB.out.size; simp at *; omega)) _ | with_reducible refine Below.setCell ?_ (by first | exact Nat.le_refl _ | with_reducible exact HB.out.size | omega | (simp; done) | (simp; omega) | (have := HB.out.size; simp at *; omega)) _)) b)
      have K0 := Lib.hid (VB.below (by repeat (first | with_reducible exact K0.out | with_reducible apply VB.drewN | with_reducible apply VB.drew | with_reducible apply VB.alloc)) b)
      clear b
      go_wp2_with fail
      go_roundw
      case rel => exact ⟨R, D % R, rfl, by first | rfl | simp, hR2, by omega, HG2, HB, K0⟩
      case measure => simp only [intOf]; have h := Int.natCast_emod D R; omega
    · obtain rfl : R = 0 := by omega
      have hDe := gcd_end HG.out
      rw [← hDe] at HM hgp
      have hz := HB.out.size
      obtain ⟨q1, hq1⟩ : ∃ q1, c / D = q1 := ⟨_, rfl⟩
      obtain ⟨q2, hq2⟩ : ∃ q2, a / D = q2 := ⟨_, rfl⟩
      have HQ1 := Lib.hid hq1
      have HQ2 := Lib.hid hq2
      have HF : Hid (fr = ((q1 : Int), (q2 : Int))) := Lib.hid (by rw [← HFr.out]; unfold frac; rw [← hDe, hq1, hq2])
      clear hq1 hq2 hDe
      go_upto_region 4 with fail
      refine region_storeG w.heap.size [(true, 0), (true, 1), (true, 4), (true, 5), (false, 2), (true, 3), (false, 6), (true, 7), (true, 8)] 9 _ (by kernel_rfl) rfl (by kernel_rfl) rfl rfl rfl ?_
      refine chain_pure 15 (v := .int .i64 c) rfl rfl rfl (fun w => by kernel_rfl) ?_
      refine chain_pure 16 (v := .int .i64 D) rfl rfl rfl (fun w => by kernel_rfl) ?_
      refine chain_pure 19 (v := .int .i64 a) rfl rfl rfl (fun w => by kernel_rfl) ?_
      refine chain_pure 20 (v := .int .i64 D) rfl rfl rfl (fun w => by kernel_rfl) ?_
      refine chain_callG 17 rfl rfl rfl (fun w => by kernel_rfl) (fun w h => HM.out w) ?_
      refine chain_pure 18 rfl rfl rfl (fun w => exec_quoV HQ1.out hgp hc rfl (by kernel_rfl) (by kernel_rfl) w) ?_
      refine chain_callG 21 rfl rfl rfl (fun w => by kernel_rfl) (fun w h => HM.out w) ?_
      refine chain_pure 22 rfl rfl rfl (fun w => exec_quoV HQ2.out hgp ha2 rfl (by kernel_rfl) (by kernel_rfl) w) ?_
      refine chain_pure 23 (v := .agg #[.int .i64 q1, .int .i64 q2]) rfl rfl rfl (fun w => by kernel_rfl) ?_
      intro w8 b8
      have hz8 := K0.out.below b8
      refine ⟨_, exec_storeV (T := 31) (cs := zv) (cs2 := fv fr) hz8 (a2_info rfl) rfl (fv_one _) rfl (by kernel_rfl) (by rw [HF.out]; kernel_rfl), World.grownBy.trans (BI.gs _ b8) (grown_setsV _ _ _ _), ?_⟩
      have KF := VB.stored (cs2 := fv fr) hz8 rfl
      have HBF := HB.out.grown (World.grownBy.trans (BI.gs w.heap.size b8) (grown_setsV w.heap.size (fv fr).toList 0 w8)) hz (fun k hk => by injection hk with hk; omega)
      show Exit.then _ _ _ _ _
      generalize w8.setCells w.heap.size 0 (fv fr).toList = w9 at *
      simp only [Act.put, List.setIfInBounds_toArray, List.set_cons_zero, List.set_cons_succ]
      go_wp2_with fail
      try simp only [Exit.inBlock, Exit.then]
      refine bodyPost_ret (res_vb Try.results50 rfl KF Try.underlying31 (a2_info rfl)) rfl ?_
      exact ⟨rfl, HBF⟩

set_option maxRecDepth 100000 in
set_option maxHeartbeats 2000000 in
theorem l9_choose (n k : Nat) (w : World) (hn : n ≤ 100) (hk : k ≤ 100) (hb : ∀ i, i < k → cho n i ≤ 10000000000) :
    Calls Try.prog 52 #[.int .i64 n, .int .i64 k] w fun e w' => e = .returned (.int .i64 (cho n k : Nat)) ∧ Below w.heap.size w w' := by
  have HB := Lib.hid hb
  clear hb
  go_enter Try.func52, Try.ntmps52
  go_wp2_with fail
  go_loopw [5, 6] (fun o i wr => ∃ (K : Nat) (c : Int), K ≤ k ∧ i = .int .i64 K ∧ o = .int .i64 c ∧ Hid (c = (cho n K : Nat)) ∧ Hid (Below w.heap.size w wr)) (fun _ i _ => k - (intOf i).toNat)
  case atStart => exact ⟨0, 1, Nat.zero_le _, rfl, rfl, Lib.hid (by rw [cho_zero]; rfl), Lib.hid (Below.refl _ _)⟩
  case round =>
    obtain ⟨K, c, hK, rfl, rfl, HC, HBw⟩ := hrel
    by_cases hlt : K < k
    · have m0 : (K : Int) < (k : Int) := by omega
      have hs := cho_step n K
      have hd := cho_div n K
      have hcb := HB.out K hlt
      rw [← HC.out] at hs
      obtain ⟨x, hx⟩ : ∃ x : Int, ((cho n (K + 1) * (K + 1) : Nat) : Int) = x := ⟨_, rfl⟩
      rw [hx] at hs hd
      have hc0 : 0 ≤ c ∧ c ≤ 10000000000 := by rw [HC.out]; omega
      have hx1 : -10000000000000 ≤ x ∧ x ≤ 10000000000000 := by
        rw [← hs]
        have h1 : (n : Int) - K ≤ 100 := by omega
        have h2 : -100 ≤ (n : Int) - K := by omega
        have h3 : 0 ≤ c * (100 - ((n : Int) - K)) := Int.mul_nonneg hc0.1 (by omega)
        have h4 : 0 ≤ c * (100 + ((n : Int) - K)) := Int.mul_nonneg hc0.1 (by omega)
        rw [Int.mul_sub] at h3
        rw [Int.mul_add] at h4
        omega
      have hy : -10000000000000 ≤ ((cho n (K + 1) : Nat) : Int) ∧ ((cho n (K + 1) : Nat) : Int) ≤ 10000000000000 := by
        have h5 := Nat.le_mul_of_pos_right (cho n (K + 1)) (show 0 < K + 1 by omega)
        omega
      have hx2 : IntKind.i64.wrap x = x := IntWalk.i64_in _ (by omega)
      have HC2 : Hid (((cho n (K + 1) : Nat) : Int) = (cho n (K + 1) : Nat)) := Lib.hid rfl
      generalize hcy : ((cho n (K + 1) : Nat) : Int) = y at hd hy HC2
      have HY := Lib.hid hcy
      have hy2 : IntKind.i64.wrap y = y := IntWalk.i64_in _ (by omega)
      clear hx hcy
      go_wp2_with fail
      go_roundw
      case rel => exact ⟨K + 1, _, by omega, by go_num, rfl, Lib.hid HY.out.symm, HBw⟩
      case measure => simp [intOf]; omega
    · obtain rfl : K = k := by omega
      go_wp2_with fail
      go_ret
      exact ⟨ret_int HC.out, HBw.out⟩
end Go.Proofs.Ytjanphcfflahkaa.chance
