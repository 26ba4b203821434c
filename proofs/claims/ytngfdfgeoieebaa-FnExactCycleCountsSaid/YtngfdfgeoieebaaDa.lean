/- Maps: two arrays of nineteen numbers compared by the law. -/
import Derived.Test.YtngfdfgeoieebaaCy
namespace Go.Proofs.Ytngfdfgeoieebaa.maps
open Go.RowKit
open cards reg
set_option linter.unusedVariables false
set_option maxRecDepth 100000 in
set_option maxHeartbeats 4000000 in
theorem eq_a19 (f : Nat → Int) (w : World) :
    Calls Try.prog 48 #[.agg (cnt f), .agg (cnt f)] w fun e w' => e = .returned (.bool true) ∧ Below w.heap.size w w' := by
  have K0 : Hid (CBox ((w.alloc (.cells (cnt f) 57)).alloc (.cells (cnt f) 57)) w.heap.size f) := Lib.hid ((CBox.newAt rfl rfl).alloc _)
  have K1 : Hid (CBox ((w.alloc (.cells (cnt f) 57)).alloc (.cells (cnt f) 57)) (w.heap.size + 1) f) := Lib.hid (CBox.newAt (by simp) rfl)
  have HB : Hid (Below w.heap.size w ((w.alloc (.cells (cnt f) 57)).alloc (.cells (cnt f) 57))) := Lib.hid (((Below.refl _ _).alloc (Nat.le_refl _) _).alloc (by simp) _)
  go_enter Try.func48, Try.ntmps48
  go_upto_region 1 with fail
  generalize (w.alloc (.cells (cnt f) 57)).alloc (.cells (cnt f) 57) = W at *
  go_wp2_with fail
  go_loopw [5] (fun i wr => ∃ k : Nat, k ≤ 19 ∧ i = .int .i64 k ∧ Hid (Below w.heap.size w wr) ∧ Hid (CBox wr w.heap.size f) ∧ Hid (CBox wr (w.heap.size + 1) f)) (fun i _ => 19 - (intOf i).toNat)
  case atStart => exact ⟨0, Nat.zero_le _, rfl, HB, K0, K1⟩
  case round =>
    clear HB K0 K1
    obtain ⟨k, hk, rfl, HB, K0, K1⟩ := hrel
    by_cases hlt : k < 19
    · have d0 := K0.out.at_ hlt
      have e0 := K1.out.at_ hlt
      have b0 : (0 : Int) ≤ (k : Int) := by omega
      have b1 : (k : Int) < 19 := by omega
      go_wp2_with fail
      have qd0 := fun d os => cell_regrown d0 d os
      have qe0 := fun d os => cell_regrown e0 d os
      refine wp_region_quiet_below (by kernel_rfl) (by kernel_rfl) ?_
      repeat (first | go_big_quiet_step ((fail)) | quiet_step ((fail)))
      refine wpQuiet_nil ?_
      intro w2 hw2
      have b : Below wr.heap.size wr w2 := by obtain ⟨r, hr⟩ := hw2; rw [hr]; exact below_regrown _ _ _
      clear hw2 qd0 qe0
      have Sw2 := Lib.hid b.size
      have HB := Lib.hid (chain0 (w := w) (by repeat (first | with_reducible exact Below.refl _ _ | with_reducible exact HB.out | with_reducible apply Below.drew | with_reducible apply bdN | with_reducible refine Below.alloc ?_ (by first | exact Nat.le_refl _ | with_reducible exact HB.out.size | omega | (simp; done) | (simp; omega) | (have := HB.out.size; simp at *; omega)) _ | with_reducible refine Below.setCell ?_ (by first | exact Nat.le_refl _ | with_reducible exact HB.out.size | omega | (simp; done) | (simp; omega) | (have := HB.out.size; simp at *; omega)) _)) b)
      have K0 := Lib.hid (CBox.below (by repeat (first | with_reducible exact K0.out | with_reducible apply CBox.drewN | with_reducible apply CBox.drew | with_reducible apply CBox.alloc)) b)
      have K1 := Lib.hid (CBox.below (by repeat (first | with_reducible exact K1.out | with_reducible apply CBox.drewN | with_reducible apply CBox.drew | with_reducible apply CBox.alloc)) b)
      clear b
      clear d0 e0
      go_wp2_with fail
      go_roundw
      case rel => exact ⟨k + 1, by omega, by go_num, HB, K0, K1⟩
      case measure => simp [intOf]; omega
    · obtain rfl : k = 19 := by omega
      go_wp2_with fail
      go_ret
      exact ⟨rfl, HB.out⟩
end Go.Proofs.Ytngfdfgeoieebaa.maps
