/- Merged texts: G5. -/
import Derived.Test.YtcedbhgjabheaaaG4
import Derived.Test.YtcedbhgjabheaaaG6
/- ChanceNoLine: the program and the model. -/
namespace Go.Proofs.Ytcedbhgjabheaaa.chance
open Go.RowKit
open cards reg
set_option linter.unusedVariables false

/-- What ChanceNoLine returns. -/
def nlR (n : Int) : (Int × Int) × Bool := if n = 0 then ((1, 1), true) else if n = 1 then ((1, 1), true) else if n = 2 then ((1, 1), true) else if n = 3 then ((78, 79), true) else if n = 4 then ((75, 79), true) else ((0, 0), false)
theorem nlR_no {n : Int} (h : n < 0 ∨ 4 < n) : nlR n = ((0, 0), false) := by
  unfold nlR
  rw [if_neg (by omega), if_neg (by omega), if_neg (by omega), if_neg (by omega), if_neg (by omega)]

set_option maxRecDepth 100000 in
set_option maxHeartbeats 2000000 in
theorem nl_at (k : Nat) (w : World) (hk : k ≤ 4) (a b : Int) (hf : frac (cho k 3) 79 = (a, b)) (ha : 0 ≤ a ∧ a ≤ 100 ∧ 0 ≤ b ∧ b ≤ 100) : Calls Try.prog 31 #[.int .i64 k] w fun e w' => e = .returned (.tuple #[.agg (fv (b - a, b)), .bool true]) ∧ Below w.heap.size w w' := by
  have HF := Lib.hid (fun w => mean_lines k w (by omega))
  rw [hf] at HF
  clear hf
  have h1 : (k : Int) ≤ 4 := by omega
  have h2 : ¬ (k : Int) < 0 := by omega
  have K0 : Hid (VB (w.alloc (.cells (fv (0, 0)) 24)) w.heap.size 24 (fv (0, 0))) := Lib.hid (VB.newAt rfl rfl)
  have HB0 : Hid (Below w.heap.size w (w.alloc (.cells (fv (0, 0)) 24))) := Lib.hid ((Below.refl _ _).alloc (Nat.le_refl _) _)
  go_enter Try.func31, Try.ntmps31
  go_wp2_with fail
  refine (HF.out _).mono ?_
  rintro e w1 ⟨rfl, b1⟩
  have K1 := Lib.hid (K0.out.below b1)
  have HB1 := Lib.hid (HB0.out.trans (b1.mono HB0.out.size))
  clear b1 K0 HB0
  have K2 : Hid (VB (w1.alloc (.cells (fv (0, 0)) 24)) w1.heap.size 24 (fv (0, 0))) := Lib.hid (VB.newAt rfl rfl)
  have hz1 : w.heap.size < w1.heap.size := K1.out.lt
  have K1 := Lib.hid (K1.out.alloc (.cells (fv (0, 0)) 24))
  have HB1 : Hid (Below w.heap.size w (w1.alloc (.cells (fv (0, 0)) 24))) := Lib.hid (HB1.out.alloc HB1.out.size _)
  have HZ : Hid (w.heap.size < w1.heap.size) := Lib.hid hz1
  have hz := K2.out.lt
  have HZ2 : Hid (w1.heap.size < (w1.alloc (.cells (fv (0, 0)) 24)).heap.size) := Lib.hid hz
  clear hz hz1
  generalize hg1 : w1.heap.size = g1 at *
  have a0 : -9223372036854775808 ≤ b - a := by omega
  have a1 : b - a ≤ 9223372036854775807 := by omega
  go_wp2_with (first
    | ((with_reducible refine store_a2 rfl _ _ rfl K2.out ?_ (a, b) ?_ ?_); rfl; rfl; intro w2 hM hG
       obtain ⟨m0, m1⟩ := FBox.cell hM
       have K3 := Lib.hid (K1.out.marked hG (fun e => by injection e with e; have := HZ.out; omega))
       have HB3 := Lib.hid (HB1.out.grown hG HB1.out.size (fun k hk => by injection hk with hk; have := HZ.out; omega))
       have m2 := VB.frozen hM
       clear hG K2 K1 HB1 hM)
    | ((with_reducible refine store_a2 rfl _ _ rfl K3.out ?_ (b - a, b) ?_ ?_); rfl; rfl; intro w3 hM hG))
  try simp only [Exit.inBlock, Exit.then]
  refine bodyPost_ret (res_vb2 Try.results31 rfl hM Try.underlying24 (a2_info rfl)) rfl ?_
  exact ⟨rfl, HB3.out.grown hG HB3.out.size (fun k hk => by injection hk with hk; omega)⟩

theorem impl_nl (n : Int) (w : World) : Calls Try.prog 31 #[.int .i64 n] w fun e w' => e = .returned (.tuple #[.agg (fv (nlR n).1), .bool (nlR n).2]) ∧ Below w.heap.size w w' := by
  rcases (show n = 0 ∨ n = 1 ∨ n = 2 ∨ n = 3 ∨ n = 4 ∨ n < 0 ∨ (¬ n < 0 ∧ 4 < n) by omega) with rfl | rfl | rfl | rfl | rfl | h | ⟨h, h2⟩
  · exact nl_at 0 w (by omega) 0 1 (by decide) (by omega)
  · exact nl_at 1 w (by omega) 0 1 (by decide) (by omega)
  · exact nl_at 2 w (by omega) 0 1 (by decide) (by omega)
  · exact nl_at 3 w (by omega) 1 79 (by decide) (by omega)
  · exact nl_at 4 w (by omega) 4 79 (by decide) (by omega)
  all_goals
    have HT := Lib.hid (nlR_no (n := n) (by omega))
    have K0 : Hid (VB (w.alloc (.cells (fv (0, 0)) 24)) w.heap.size 24 (fv (0, 0))) := Lib.hid (VB.newAt rfl rfl)
    have HB0 : Hid (Below w.heap.size w (w.alloc (.cells (fv (0, 0)) 24))) := Lib.hid ((Below.refl _ _).alloc (Nat.le_refl _) _)
    go_enter Try.func31, Try.ntmps31
    go_wp2_with ((with_reducible refine store_a2 rfl _ _ rfl K0.out ?_ (0, 0) ?_ ?_); rfl; rfl; intro w2 hM hG)
    try simp only [Exit.inBlock, Exit.then]
    refine bodyPost_ret (res_vb2 Try.results31 rfl hM Try.underlying24 (a2_info rfl)) rfl ?_
    exact ⟨by rw [HT.out]; rfl, HB0.out.grown hG HB0.out.size (fun k hk => by injection hk with hk; omega)⟩

set_option maxRecDepth 100000 in
set_option maxHeartbeats 2000000 in
theorem spec_nl_at (k : Nat) (w : World) (hk : k ≤ 4) (m : Nat) (hm : [0, 0, 0, 1, 4][k]? = some m) : Calls Try.prog 30 #[.int .i64 k] w fun e w' => e = .returned (.tuple #[.agg (fv (frac (79 - m) 79)), .bool true]) ∧ Below w.heap.size w w' := by
  have hm4 : m ≤ 4 := by
    rcases (show k = 0 ∨ k = 1 ∨ k = 2 ∨ k = 3 ∨ k = 4 by omega) with rfl | rfl | rfl | rfl | rfl <;> simp at hm <;> omega
  have HG := Lib.hid (fun w => l9_cut (79 - m) 79 w (by omega) (by omega) (by omega))
  have e79 : ((79 - m : Nat) : Int) = 79 - (m : Int) := by omega
  rw [e79] at HG
  have HN := Lib.hid (fun w => in_yes (k : Int) 0 4 w (by omega) (by omega))
  generalize frac (79 - m) 79 = fr at *
  have K0 : Hid (VB (w.alloc (.cells (fv (0, 0)) 24)) w.heap.size 24 (fv (0, 0))) := Lib.hid (VB.newAt rfl rfl)
  have HB0 : Hid (Below w.heap.size w (w.alloc (.cells (fv (0, 0)) 24))) := Lib.hid ((Below.refl _ _).alloc (Nat.le_refl _) _)
  have hc : ((w.alloc (.cells #[.int .i64 0, .int .i64 0] 24)).alloc (.cells #[.int .i64 0, .int .i64 0, .int .i64 0, .int .i64 1, .int .i64 4] 3)).cell? ⟨w.heap.size + 1, k, none⟩ = some (.int .i64 m) := by
    rw [show w.heap.size + 1 = (w.alloc (.cells #[.int .i64 0, .int .i64 0] 24)).heap.size by simp, cell_of_row _ _ k _ _ _ (heap_alloc_new _ _)]
    rcases (show k = 0 ∨ k = 1 ∨ k = 2 ∨ k = 3 ∨ k = 4 by omega) with rfl | rfl | rfl | rfl | rfl <;> simp at hm <;> subst hm <;> rfl
  have K1 := Lib.hid (K0.out.alloc (.cells #[.int .i64 0, .int .i64 0, .int .i64 0, .int .i64 1, .int .i64 4] 3))
  have HB1 := Lib.hid (HB0.out.alloc HB0.out.size (.cells #[.int .i64 0, .int .i64 0, .int .i64 0, .int .i64 1, .int .i64 4] 3))
  have m0 : (0 : Int) ≤ k := by omega
  have m1 : (k : Int) < 5 := by omega
  have m2 : (m : Int) ≤ 4 := by omega
  clear hm HB0 K0 e79
  go_enter Try.func30, Try.ntmps30
  go_wp2_with fail
  refine (HN.out _).mono ?_
  rintro e w' ⟨rfl, rfl⟩
  go_wp2_with fail
  refine (HG.out _).mono ?_
  rintro e w2 ⟨rfl, b2⟩
  have K2 := Lib.hid (K1.out.below b2)
  have HB2 := Lib.hid (HB1.out.trans (b2.mono HB1.out.size))
  clear b2 K1 HB1 hc
  go_wp2_with ((with_reducible refine store_a2 rfl _ _ rfl K2.out ?_ fr ?_ ?_); rfl; rfl; intro w3 hM hG)
  try simp only [Exit.inBlock, Exit.then]
  refine bodyPost_ret (res_vb2 Try.results30 rfl hM Try.underlying24 (a2_info rfl)) rfl ?_
  exact ⟨rfl, HB2.out.grown hG HB2.out.size (fun k hk => by injection hk with hk; omega)⟩

set_option maxRecDepth 100000 in
set_option maxHeartbeats 2000000 in
theorem spec_nl (n : Int) (w : World) : Calls Try.prog 30 #[.int .i64 n] w fun e w' => e = .returned (.tuple #[.agg (fv (nlR n).1), .bool (nlR n).2]) ∧ Below w.heap.size w w' := by
  rcases (show n = 0 ∨ n = 1 ∨ n = 2 ∨ n = 3 ∨ n = 4 ∨ (n < 0 ∨ 4 < n) by omega) with rfl | rfl | rfl | rfl | rfl | h
  · exact spec_nl_at 0 w (by omega) 0 rfl
  · exact spec_nl_at 1 w (by omega) 0 rfl
  · exact spec_nl_at 2 w (by omega) 0 rfl
  · exact spec_nl_at 3 w (by omega) 1 rfl
  · exact spec_nl_at 4 w (by omega) 4 rfl
  have HT := Lib.hid (nlR_no h)
  have HN := Lib.hid (fun w => in_no n 0 4 w h)
  have K0 : Hid (VB (w.alloc (.cells (fv (0, 0)) 24)) w.heap.size 24 (fv (0, 0))) := Lib.hid (VB.newAt rfl rfl)
  have HB0 : Hid (Below w.heap.size w (w.alloc (.cells (fv (0, 0)) 24))) := Lib.hid ((Below.refl _ _).alloc (Nat.le_refl _) _)
  clear h
  go_enter Try.func30, Try.ntmps30
  go_wp2_with fail
  refine (HN.out _).mono ?_
  rintro e w' ⟨rfl, rfl⟩
  go_wp2_with ((with_reducible refine store_a2 rfl _ _ rfl K0.out ?_ (0, 0) ?_ ?_); rfl; rfl; intro w2 hM hG)
  try simp only [Exit.inBlock, Exit.then]
  refine bodyPost_ret (res_vb2 Try.results30 rfl hM Try.underlying24 (a2_info rfl)) rfl ?_
  exact ⟨by rw [HT.out]; rfl, HB0.out.grown hG HB0.out.size (fun k hk => by injection hk with hk; omega)⟩
end Go.Proofs.Ytcedbhgjabheaaa.chance

