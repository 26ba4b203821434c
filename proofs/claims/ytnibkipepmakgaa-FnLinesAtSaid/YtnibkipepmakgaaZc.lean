/- The model's functions on lines: places in common, apart from others, lines with a place. -/
import Derived.Test.YtnibkipepmakgaaZt
namespace Go.Proofs.Ytnibkipepmakgaa.parting
open Go.RowKit
open cards maps
set_option linter.unusedVariables false

def rowC (v : Int) (y : A3) : Nat → Nat
  | 0 => 0
  | k + 1 => rowC v y k + bit (decide (v = A3.get y k))
def comC (x y : A3) : Nat → Nat
  | 0 => 0
  | i + 1 => comC x y i + rowC (A3.get x i) y 3
theorem comC_all (x y : A3) : comC x y 3 = com x y := by
  simp only [comC, rowC, A3.get, com]
  omega
theorem bit_le (b : Bool) : bit b ≤ 1 := by cases b <;> simp [bit]
theorem rowC_le (v : Int) (y : A3) : ∀ k, rowC v y k ≤ k
  | 0 => Nat.le_refl _
  | k + 1 => by have := rowC_le v y k; have := bit_le (decide (v = A3.get y k)); simp only [rowC]; omega
theorem comC_le (x y : A3) : ∀ i, comC x y i ≤ 3 * i
  | 0 => Nat.le_refl _
  | i + 1 => by have := comC_le x y i; have := rowC_le (A3.get x i) y 3; simp only [comC]; omega

set_option maxRecDepth 100000 in
set_option maxHeartbeats 4000000 in
theorem l7_common (x y : A3) (w : World) :
    Calls Try.prog 31 #[x.val, y.val] w fun e w' => e = .returned (.int .i64 (com x y : Nat)) ∧ Below w.heap.size w w' := by
  go_enter Try.func31, Try.ntmps31
  go_wp2_with fail
  have K0 : Hid (TBox ((w.alloc x.obj).alloc y.obj) w.heap.size x) := Lib.hid (TBox.alloc (TBox.newAt rfl rfl) _)
  have K1 : Hid (TBox ((w.alloc x.obj).alloc y.obj) (w.heap.size + 1) y) := Lib.hid (TBox.newAt (by simp) rfl)
  have HB : Hid (Below w.heap.size w ((w.alloc x.obj).alloc y.obj)) := Lib.hid (by repeat (first | with_reducible exact Below.refl _ _ | with_reducible exact HB.out | with_reducible apply Below.drew | with_reducible apply bdN | with_reducible refine Below.alloc ?_ (by first | exact Nat.le_refl _ | with_reducible exact HB.out.size | omega | (simp; done) | (simp; omega) | (have := HB.out.size; simp at *; omega)) _ | with_reducible refine Below.setCell ?_ (by first | exact Nat.le_refl _ | with_reducible exact HB.out.size | omega | (simp; done) | (simp; omega) | (have := HB.out.size; simp at *; omega)) _))
  obtain ⟨W, hW⟩ : ∃ W, (w.alloc x.obj).alloc y.obj = W := ⟨_, rfl⟩
  rw [hW] at K0 K1 HB ⊢
  clear hW
  go_loopw [5, 6, 7] (fun m i _ wr => ∃ k : Nat, k ≤ 3 ∧ i = .int .i64 k ∧ m = .int .i64 (comC x y k : Nat) ∧ Hid (Below w.heap.size w wr) ∧ Hid (TBox wr w.heap.size x) ∧ Hid (TBox wr (w.heap.size + 1) y)) (fun _ i _ _ => 3 - (intOf i).toNat)
  case atStart => exact ⟨0, by omega, rfl, rfl, HB, K0, K1⟩
  case round =>
    clear HB K0 K1
    obtain ⟨k, hk, rfl, rfl, HB, K0, K1⟩ := hrel
    by_cases hlt : k < 3
    · have hc := comC_le x y k
      go_wp2_with fail
      go_loopw [5, 7] (fun m i wr => ∃ j : Nat, j ≤ 3 ∧ i = .int .i64 j ∧ m = .int .i64 (comC x y k + rowC (A3.get x k) y j : Nat) ∧ Hid (Below w.heap.size w wr) ∧ Hid (TBox wr w.heap.size x) ∧ Hid (TBox wr (w.heap.size + 1) y)) (fun _ i _ => 3 - (intOf i).toNat)
      case atStart => exact ⟨0, by omega, rfl, rfl, HB, K0, K1⟩
      case round =>
        clear HB K0 K1
        obtain ⟨j, hj, rfl, rfl, HB, K0, K1⟩ := hrel
        by_cases hjt : j < 3
        · have hr := rowC_le (A3.get x k) y j
          have c0 := K0.out.get hlt
          have c1 := K1.out.get hjt
          have b0 : (0 : Int) ≤ (k : Int) := by omega
          have b1 : (k : Int) < 3 := by omega
          have b2 : (0 : Int) ≤ (j : Int) := by omega
          have b3 : (j : Int) < 3 := by omega
          have HE : Hid (rowC (A3.get x k) y (j + 1) = rowC (A3.get x k) y j + bit (decide (A3.get x k = A3.get y j))) := Lib.hid rfl
          obtain ⟨u, hu⟩ : ∃ u, A3.get x k = u := ⟨_, rfl⟩
          obtain ⟨v, hv⟩ : ∃ v, A3.get y j = v := ⟨_, rfl⟩
          rw [hu] at c0 HE hr
          rw [hv] at c1 HE
          obtain ⟨s, hs⟩ : ∃ s, comC x y k + rowC u y j = s := ⟨_, rfl⟩
          have HU := Lib.hid hu
          have hss : s ≤ 20 := by omega
          rw [hu, hs]
          have HSs := Lib.hid hs
          clear hu hv hs hc hr
          by_cases he : u = v
          · have HE2 := Lib.hid (show comC x y k + rowC u y (j + 1) = s + 1 by rw [HE.out, ← HSs.out]; simp [bit, he]; omega)
            have hee : (u == v) = true := by simp [he]
            clear he
            go_wp2_with fail
            have qc0 := fun d os => cell_regrown c0 d os
            have qc1 := fun d os => cell_regrown c1 d os
            refine wp_region_quiet_below (by kernel_rfl) (by kernel_rfl) ?_
            repeat (first | go_big_quiet_step ((fail)) | quiet_step ((fail)))
            refine wpQuiet_nil ?_
            intro w2 hw2
            have b : Below wr.heap.size wr w2 := by obtain ⟨r, hr⟩ := hw2; rw [hr]; exact below_regrown _ _ _
            clear hw2 qc0 qc1
            have Sw2 := Lib.hid b.size
            have HB := Lib.hid (chain0 (w := w) (by repeat (first | with_reducible exact Below.refl _ _ | with_reducible exact HB.out | with_reducible apply Below.drew | with_reducible apply bdN | with_reducible refine Below.alloc ?_ (by first | exact Nat.le_refl _ | with_reducible exact HB.out.size | omega | (simp; done) | (simp; omega) | (have := HB.out.size; simp at *; omega)) _ | with_reducible refine Below.setCell ?_ (by first | exact Nat.le_refl _ | with_reducible exact HB.out.size | omega | (simp; done) | (simp; omega) | (have := HB.out.size; simp at *; omega)) _)) b)
            have K0 := Lib.hid (TBox.below (by repeat (first | with_reducible exact K0.out | with_reducible apply TBox.drewN | with_reducible apply TBox.drew | with_reducible apply TBox.alloc)) b)
            have K1 := Lib.hid (TBox.below (by repeat (first | with_reducible exact K1.out | with_reducible apply TBox.drewN | with_reducible apply TBox.drew | with_reducible apply TBox.alloc)) b)
            clear b
            clear c0 c1
            go_wp2_with fail
            go_roundw
            case rel => exact ⟨j + 1, by omega, by go_num, by rw [HE2.out]; go_num, HB, K0, K1⟩
            case measure => simp [intOf]; omega
          · have HE2 := Lib.hid (show comC x y k + rowC u y (j + 1) = s by rw [HE.out, ← HSs.out]; simp [bit, he])
            have hne : (u == v) = false := by simp [he]
            clear he
            go_wp2_with fail
            have qc0 := fun d os => cell_regrown c0 d os
            have qc1 := fun d os => cell_regrown c1 d os
            refine wp_region_quiet_below (by kernel_rfl) (by kernel_rfl) ?_
            repeat (first | go_big_quiet_step ((fail)) | quiet_step ((fail)))
            refine wpQuiet_nil ?_
            intro w2 hw2
            have b : Below wr.heap.size wr w2 := by obtain ⟨r, hr⟩ := hw2; rw [hr]; exact below_regrown _ _ _
            clear hw2 qc0 qc1
            have Sw2 := Lib.hid b.size
            have HB := Lib.hid (chain0 (w := w) (by repeat (first | with_reducible exact Below.refl _ _ | with_reducible exact HB.out | with_reducible apply Below.drew | with_reducible apply bdN | with_reducible refine Below.alloc ?_ (by first | exact Nat.le_refl _ | with_reducible exact HB.out.size | omega | (simp; done) | (simp; omega) | (have := HB.out.size; simp at *; omega)) _ | with_reducible refine Below.setCell ?_ (by first | exact Nat.le_refl _ | with_reducible exact HB.out.size | omega | (simp; done) | (simp; omega) | (have := HB.out.size; simp at *; omega)) _)) b)
            have K0 := Lib.hid (TBox.below (by repeat (first | with_reducible exact K0.out | with_reducible apply TBox.drewN | with_reducible apply TBox.drew | with_reducible apply TBox.alloc)) b)
            have K1 := Lib.hid (TBox.below (by repeat (first | with_reducible exact K1.out | with_reducible apply TBox.drewN | with_reducible apply TBox.drew | with_reducible apply TBox.alloc)) b)
            clear b
            clear c0 c1
            go_wp2_with fail
            go_roundw
            case rel => exact ⟨j + 1, by omega, by go_num, by rw [HE2.out], HB, K0, K1⟩
            case measure => simp [intOf]; omega
        · obtain rfl : j = 3 := by omega
          go_wp2_with fail
          go_roundw
          case rel => exact ⟨k + 1, by omega, by go_num, rfl, HB, K0, K1⟩
          case measure => simp [intOf]; omega
    · obtain rfl : k = 3 := by omega
      have HC := Lib.hid (comC_all x y)
      go_wp2_with fail
      go_ret
      exact ⟨ret_int (by rw [HC.out]), HB.out⟩
end Go.Proofs.Ytnibkipepmakgaa.parting
