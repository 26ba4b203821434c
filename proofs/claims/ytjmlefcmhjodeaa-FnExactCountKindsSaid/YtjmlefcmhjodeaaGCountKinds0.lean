/- Merged texts: Xk. -/
import Derived.Test.YtjmlefcmhjodeaaXj
/- Five numbers compared by the law. -/
namespace Go.Proofs.Ytjmlefcmhjodeaa.others
open Go.RowKit
open cards reg
set_option linter.unusedVariables false
set_option maxRecDepth 100000 in
set_option maxHeartbeats 4000000 in
theorem eq_a5 (f : Nat → Int) (w : World) :
    Calls Try.prog 28 #[.agg (c5 f), .agg (c5 f)] w fun e w' => e = .returned (.bool true) ∧ Below w.heap.size w w' := by
  have K0 : Hid (VB ((w.alloc (.cells (c5 f) 37)).alloc (.cells (c5 f) 37)) w.heap.size 37 (c5 f)) := Lib.hid ((VB.newAt rfl rfl).alloc _)
  have K1 : Hid (VB ((w.alloc (.cells (c5 f) 37)).alloc (.cells (c5 f) 37)) (w.heap.size + 1) 37 (c5 f)) := Lib.hid (VB.newAt (by simp) rfl)
  have HB : Hid (Below w.heap.size w ((w.alloc (.cells (c5 f) 37)).alloc (.cells (c5 f) 37))) := Lib.hid (((Below.refl _ _).alloc (Nat.le_refl _) _).alloc (by simp) _)
  go_enter Try.func28, Try.ntmps28
  go_upto_region 1 with fail
  generalize (w.alloc (.cells (c5 f) 37)).alloc (.cells (c5 f) 37) = W at *
  go_wp2_with fail
  go_loopw [5] (fun i wr => ∃ k : Nat, k ≤ 5 ∧ i = .int .i64 k ∧ Hid (Below w.heap.size w wr) ∧ Hid (VB wr w.heap.size 37 (c5 f)) ∧ Hid (VB wr (w.heap.size + 1) 37 (c5 f))) (fun i _ => 5 - (intOf i).toNat)
  case atStart => exact ⟨0, Nat.zero_le _, rfl, HB, K0, K1⟩
  case round =>
    clear HB K0 K1
    obtain ⟨k, hk, rfl, HB, K0, K1⟩ := hrel
    by_cases hlt : k < 5
    · have d0 := VB.at_ K0.out (c5_at f hlt)
      have e0 := VB.at_ K1.out (c5_at f hlt)
      have b0 : (0 : Int) ≤ (k : Int) := by omega
      have b1 : (k : Int) < 5 := by omega
      go_wp2_with fail
      have qd0 := fun d os => cell_regrown d0 d os
      have qe0 := fun d os => cell_regrown e0 d os
      refine wp_region_quiet_below (by kernel_rfl) (by kernel_rfl) ?_
      repeat (first | go_big_quiet_step ((fail)) | quiet_step ((fail)))
      refine wpQuiet_nil ?_
      intro w2 hw2
      have b : Below wr.heap.size wr w2 := by obtain ⟨r, hr⟩ := hw2; rw [hr]; exact below_regrown _ _ _
      clear hw2 qd0 qe0
      have Sw2 := Lib.hid b.size
      have HB := Lib.hid (chain0 (w := w) (by repeat (first | with_reducible exact Below.refl _ _ | with_reducible exact HB.out | with_reducible apply Below.drew | with_reducible apply bdN | with_reducible refine Below.alloc ?_ (by first | exact Nat.le_refl _ | with_reducible exact HB.out.size | omega | (simp; done) | (simp; omega) | (have := HB.out.size; simp at *; omega)) _ | with_reducible refine Below.setCell ?_ (by first | exact Nat.le_refl _ | with_reducible exact HB.out.size | omega | (simp; done) | (simp; omega) | (have := HB.out.size; simp at *; omega)) _)) b)
      have K0 := Lib.hid (VB.below (by repeat (first | with_reducible exact K0.out | with_reducible apply VB.drewN | with_reducible apply VB.drew | with_reducible apply VB.alloc)) b)
      have K1 := Lib.hid (VB.below (by repeat (first | with_reducible exact K1.out | with_reducible apply VB.drewN | with_reducible apply VB.drew | with_reducible apply VB.alloc)) b)
      clear b
      clear d0 e0
      go_wp2_with fail
      go_roundw
      case rel => exact ⟨k + 1, by omega, by go_num, HB, K0, K1⟩
      case measure => simp [intOf]; omega
    · obtain rfl : k = 5 := by omega
      go_wp2_with fail
      go_ret
      exact ⟨rfl, HB.out⟩
end Go.Proofs.Ytjmlefcmhjodeaa.others

