/- MeanLines and ChanceNoLine: the program and the model. -/
import Derived.Test.YtcedbhgjabheaaaG3
namespace Go.Proofs.Ytcedbhgjabheaaa.chance
open Go.RowKit
open cards reg
set_option linter.unusedVariables false

theorem store_a2 {ops : Array Oper} {rest : List Oper} {o : Oper} {a : Act} {w : World} {Q : Exit → Act → World → Prop} (hgd : o.guard = none) (x y : Operand) (ho : o.op = .store 24 x y) {g : Nat} {p : Int × Int} (h : VB w g 24 (fv p)) (hx : a.eval x = .pointer (some ⟨g, 0, none⟩))
    (q : Int × Int) (hy : a.eval y = .agg (fv q)) (hk : ∀ w', VB w' g 24 (fv q) → w.grownBy w' (some g) → wpList Try.prog ops Q rest (a.put o.dst undef) w') : wpList Try.prog ops Q (o :: rest) a w :=
  store_vb hgd 24 x y ho h (a2_info rfl) hx (fv q) rfl (fv_one q) hy hk
/-- What MeanLines returns. -/
def mlR (n : Int) : (Int × Int) × Bool := if 0 ≤ n ∧ n ≤ 27 then (frac (cho n.toNat 3) 79, true) else ((0, 0), false)
theorem mlR_no {n : Int} (h : n < 0 ∨ 27 < n) : mlR n = ((0, 0), false) := if_neg (by omega)
theorem mlR_yes {k : Nat} (h : k ≤ 27) : mlR k = (frac (cho k 3) 79, true) := by unfold mlR; rw [if_pos (by omega)]; rfl
theorem threes : ∀ k : Fin 28, ((k.val : Int) * (k.val - 1) * (k.val - 2)) = 6 * (cho k.val 3 : Nat) ∧ 0 ≤ (k.val : Int) * (k.val - 1) ∧ (k.val : Int) * (k.val - 1) ≤ 1000 ∧ cho k.val 3 ≤ 3000 := by decide

set_option maxRecDepth 100000 in
set_option maxHeartbeats 2000000 in
theorem mean_lines (k : Nat) (w : World) (hk : k ≤ 27) : Calls Try.prog 55 #[.int .i64 k] w fun e w' => e = .returned (.agg (fv (frac (cho k 3) 79))) ∧ Below w.heap.size w w' := by
  obtain ⟨h1, h2, h3, h4⟩ := threes ⟨k, by omega⟩
  simp only at h1 h2 h3 h4
  have HF := Lib.hid (fun w => fraction_ (cho k 3) 79 w (by omega) (by omega) (by omega))
  have HC := Lib.hid h4
  generalize hc : cho k 3 = c at *
  generalize hy : (k : Int) * (k - 1) = y at *
  have h5 : (6 * (c : Int)).tdiv 6 = c := by rw [Int.mul_comm]; exact Int.mul_tdiv_cancel _ (by omega)
  have h6 : IntKind.i64.wrap y = y := IntWalk.i64_in _ (by omega)
  obtain ⟨z, hz⟩ : ∃ z : Int, 6 * (c : Int) = z := ⟨_, rfl⟩
  rw [hz] at h1 h5
  have h7 : IntKind.i64.wrap z = z := IntWalk.i64_in _ (by omega)
  have h8 : IntKind.i64.wrap (c : Int) = (c : Int) := IntWalk.i64_in _ (by omega)
  have hz2 : -100000 ≤ z ∧ z ≤ 100000 := by omega
  have hc2 : (c : Int) ≤ 3000 := by omega
  clear hz hc
  obtain ⟨fr, hfr⟩ : ∃ fr, frac c 79 = fr := ⟨_, rfl⟩
  rw [hfr] at HF ⊢
  clear hfr h4
  obtain ⟨C, hC⟩ : ∃ C : Int, (c : Int) = C := ⟨_, rfl⟩
  rw [hC] at h5 h8 hc2 HF
  clear hC
  have K0 : Hid (VB (w.alloc (.cells (fv (0, 0)) 24)) w.heap.size 24 (fv (0, 0))) := Lib.hid (VB.newAt rfl rfl)
  have HB0 : Hid (Below w.heap.size w (w.alloc (.cells (fv (0, 0)) 24))) := Lib.hid ((Below.refl _ _).alloc (Nat.le_refl _) _)
  go_enter Try.func55, Try.ntmps55
  go_wp2_with fail
  refine (HF.out _).mono ?_
  rintro e w1 ⟨rfl, b1⟩
  have K1 := Lib.hid (K0.out.below b1)
  have HB1 := Lib.hid (HB0.out.trans (b1.mono HB0.out.size))
  clear b1 K0 HB0
  go_wp2_with ((with_reducible refine store_a2 rfl _ _ rfl K1.out ?_ fr ?_ ?_); rfl; rfl; intro w2 hM hG)
  try simp only [Exit.inBlock, Exit.then]

  refine bodyPost_ret (res_vb Try.results55 rfl hM Try.underlying24 (a2_info rfl)) rfl ?_
  exact ⟨rfl, HB1.out.grown hG HB1.out.size (fun k hk => by injection hk with hk; omega)⟩

set_option maxRecDepth 100000 in
set_option maxHeartbeats 2000000 in
theorem impl_ml (n : Int) (w : World) : Calls Try.prog 25 #[.int .i64 n] w fun e w' => e = .returned (.tuple #[.agg (fv (mlR n).1), .bool (mlR n).2]) ∧ Below w.heap.size w w' := by
  have K0 : Hid (VB (w.alloc (.cells (fv (0, 0)) 24)) w.heap.size 24 (fv (0, 0))) := Lib.hid (VB.newAt rfl rfl)
  have HB0 : Hid (Below w.heap.size w (w.alloc (.cells (fv (0, 0)) 24))) := Lib.hid ((Below.refl _ _).alloc (Nat.le_refl _) _)
  rcases (show n < 0 ∨ (¬ n < 0 ∧ 27 < n) ∨ (0 ≤ n ∧ n ≤ 27) by omega) with h | ⟨h, h2⟩ | h
  · have HT := Lib.hid (mlR_no (n := n) (by omega))
    go_enter Try.func25, Try.ntmps25
    go_wp2_with ((with_reducible refine store_a2 rfl _ _ rfl K0.out ?_ (0, 0) ?_ ?_); rfl; rfl; intro w2 hM hG)
    try simp only [Exit.inBlock, Exit.then]
    refine bodyPost_ret (res_vb2 Try.results25 rfl hM Try.underlying24 (a2_info rfl)) rfl ?_
    exact ⟨by rw [HT.out]; rfl, HB0.out.grown hG HB0.out.size (fun k hk => by injection hk with hk; omega)⟩
  · have HT := Lib.hid (mlR_no (n := n) (by omega))
    go_enter Try.func25, Try.ntmps25
    go_wp2_with ((with_reducible refine store_a2 rfl _ _ rfl K0.out ?_ (0, 0) ?_ ?_); rfl; rfl; intro w2 hM hG)
    try simp only [Exit.inBlock, Exit.then]
    refine bodyPost_ret (res_vb2 Try.results25 rfl hM Try.underlying24 (a2_info rfl)) rfl ?_
    exact ⟨by rw [HT.out]; rfl, HB0.out.grown hG HB0.out.size (fun k hk => by injection hk with hk; omega)⟩
  · obtain ⟨k, rfl⟩ : ∃ k : Nat, n = (k : Int) := ⟨n.toNat, by omega⟩
    have HT := Lib.hid (mlR_yes (k := k) (by omega))
    have HF := Lib.hid (fun w => mean_lines k w (by omega))
    have h1 : (k : Int) ≤ 27 := by omega
    have h2 : ¬ (k : Int) < 0 := by omega
    rw [HT.out]
    generalize frac (cho k 3) 79 = fr at *
    clear h
    go_enter Try.func25, Try.ntmps25
    go_wp2_with fail
    refine (HF.out _).mono ?_
    rintro e w1 ⟨rfl, b1⟩
    have K1 := Lib.hid (K0.out.below b1)
    have HB1 := Lib.hid (HB0.out.trans (b1.mono HB0.out.size))
    clear b1 K0 HB0
    go_wp2_with ((with_reducible refine store_a2 rfl _ _ rfl K1.out ?_ fr ?_ ?_); rfl; rfl; intro w2 hM hG)
    try simp only [Exit.inBlock, Exit.then]
    refine bodyPost_ret (res_vb2 Try.results25 rfl hM Try.underlying24 (a2_info rfl)) rfl ?_
    exact ⟨rfl, HB1.out.grown hG HB1.out.size (fun k hk => by injection hk with hk; omega)⟩

set_option maxRecDepth 100000 in
set_option maxHeartbeats 2000000 in
theorem spec_ml (n : Int) (w : World) : Calls Try.prog 24 #[.int .i64 n] w fun e w' => e = .returned (.tuple #[.agg (fv (mlR n).1), .bool (mlR n).2]) ∧ Below w.heap.size w w' := by
  have K0 : Hid (VB (w.alloc (.cells (fv (0, 0)) 24)) w.heap.size 24 (fv (0, 0))) := Lib.hid (VB.newAt rfl rfl)
  have HB0 : Hid (Below w.heap.size w (w.alloc (.cells (fv (0, 0)) 24))) := Lib.hid ((Below.refl _ _).alloc (Nat.le_refl _) _)
  by_cases h : n < 0 ∨ 27 < n
  · have HT := Lib.hid (mlR_no h)
    have HN := Lib.hid (fun w => in_no n 0 27 w h)
    clear h
    go_enter Try.func24, Try.ntmps24
    go_wp2_with fail
    refine (HN.out _).mono ?_
    rintro e w' ⟨rfl, rfl⟩
    go_wp2_with ((with_reducible refine store_a2 rfl _ _ rfl K0.out ?_ (0, 0) ?_ ?_); rfl; rfl; intro w2 hM hG)
    try simp only [Exit.inBlock, Exit.then]
    refine bodyPost_ret (res_vb2 Try.results24 rfl hM Try.underlying24 (a2_info rfl)) rfl ?_
    exact ⟨by rw [HT.out]; rfl, HB0.out.grown hG HB0.out.size (fun k hk => by injection hk with hk; omega)⟩
  · obtain ⟨k, rfl⟩ : ∃ k : Nat, n = (k : Int) := ⟨n.toNat, by omega⟩
    have HT := Lib.hid (mlR_yes (k := k) (by omega))
    have hle := (threes ⟨k, by omega⟩).2.2.2
    simp only at hle
    have HN := Lib.hid (fun w => in_yes (k : Int) 0 27 w (by omega) (by omega))
    have HF := Lib.hid (fun w => l9_choose k 3 w (by omega) (by omega) (fun i hi => by have := cho_le k i; have : 2 ^ k ≤ 2 ^ 27 := Nat.pow_le_pow_right (by omega) (by omega); omega))
    have HG := Lib.hid (fun w => l9_cut (cho k 3) 79 w (by omega) (by omega) (by omega))
    rw [HT.out]
    generalize frac (cho k 3) 79 = fr at *
    generalize cho k 3 = c at *
    clear h hle
    go_enter Try.func24, Try.ntmps24
    go_wp2_with fail
    refine (HN.out _).mono ?_
    rintro e w' ⟨rfl, rfl⟩
    go_wp2_with fail
    refine (HF.out _).mono ?_
    rintro e w1 ⟨rfl, b1⟩
    have K1 := Lib.hid (K0.out.below b1)
    have HB1 := Lib.hid (HB0.out.trans (b1.mono HB0.out.size))
    clear b1 K0 HB0
    go_wp2_with fail
    refine (HG.out _).mono ?_
    rintro e w2 ⟨rfl, b2⟩
    have K2 := Lib.hid (K1.out.below b2)
    have HB2 := Lib.hid (HB1.out.trans (b2.mono HB1.out.size))
    clear b2 K1 HB1
    go_wp2_with ((with_reducible refine store_a2 rfl _ _ rfl K2.out ?_ fr ?_ ?_); rfl; rfl; intro w3 hM hG)
    try simp only [Exit.inBlock, Exit.then]
    refine bodyPost_ret (res_vb2 Try.results24 rfl hM Try.underlying24 (a2_info rfl)) rfl ?_
    exact ⟨rfl, HB2.out.grown hG HB2.out.size (fun k hk => by injection hk with hk; omega)⟩
end Go.Proofs.Ytcedbhgjabheaaa.chance
