/- Cards: lines, kinds of lines, in how many traits two cards differ: what the functions return. -/
import Derived.Test.YtjmlefcmhjodeaaC4
import Derived.Test.YtjmlefcmhjodeaaLn
namespace Go.Proofs.Ytjmlefcmhjodeaa.cards
open Go.RowKit
set_option linter.unusedVariables false

def lineR (x y z : Cd) : Bool × Bool := if x.ok && y.ok && z.ok then (line x y z, true) else (false, false)

def neQ (a b _c : Int) : Bool := decide (a ≠ b)
theorem cnt_ne (x y : Cd) : cntK neQ x y x 4 = dif x y := by simp [cntK, tr, neQ, dif]
theorem ne_yes {a b c : Int} (h : (a != b) = true) : neQ a b c = true := by simpa [neQ] using h
theorem ne_no {a b c : Int} (h : (a != b) = false) : neQ a b c = false := by simpa [neQ] using h

set_option maxRecDepth 100000 in
set_option maxHeartbeats 4000000 in
theorem l2_differ (x y : Cd) (w : World) :
    Calls Try.prog 61 #[x.val, y.val] w fun e w' => e = .returned (.int .i64 (dif x y)) ∧ Below w.heap.size w w' := by
  go_enter Try.func61, Try.ntmps61
  go_wp2_with fail
  go_loopw [5, 6] (fun n i wr => ∃ k : Nat, k ≤ 4 ∧ i = .int .i64 k ∧ n = .int .i64 (cntK neQ x y x k) ∧ Hid (Below w.heap.size w wr) ∧ Hid (Box wr w.heap.size x) ∧ Hid (Box wr (w.heap.size + 1) y)) (fun _ i _ => 4 - (intOf i).toNat)
  case atStart => exact ⟨0, by omega, rfl, rfl, Lib.hid (by repeat (first | with_reducible exact Below.refl _ _ | with_reducible exact HB.out | with_reducible apply Below.drew | with_reducible apply bdN | with_reducible refine Below.alloc ?_ (by first | exact Nat.le_refl _ | with_reducible exact HB.out.size | omega | (simp; done) | (simp; omega) | (have := HB.out.size; simp at *; omega)) _ | with_reducible refine Below.setCell ?_ (by first | exact Nat.le_refl _ | with_reducible exact HB.out.size | omega | (simp; done) | (simp; omega) | (have := HB.out.size; simp at *; omega)) _)), Lib.hid (by repeat (first | with_reducible exact HB.out | with_reducible apply Box.drewN | with_reducible apply Box.drew | (with_reducible refine Box.newAt ?_ ?_ <;> first | (simp; done) | rfl) | with_reducible apply Box.alloc)), Lib.hid (by repeat (first | with_reducible exact HB.out | with_reducible apply Box.drewN | with_reducible apply Box.drew | (with_reducible refine Box.newAt ?_ ?_ <;> first | (simp; done) | rfl) | with_reducible apply Box.alloc))⟩
  case round =>
    obtain ⟨k, hk, rfl, rfl, HB, K0, K1⟩ := hrel
    obtain ⟨k0a, k0b, k0c, k0d⟩ := K0.out.cell
    obtain ⟨k1a, k1b, k1c, k1d⟩ := K1.out.cell
    have n0 := cntK_lo neQ x y x k
    have n1 := cntK_hi neQ x y x k
    obtain ⟨k1, HK, HS⟩ : ∃ k1, Hid (k1 = k + 1) ∧ Hid (cntK neQ x y x k1 = cntK neQ x y x k + one (neQ (tr x k) (tr y k) (tr x k))) := ⟨_, rfl, rfl⟩
    rcases (show k = 0 ∨ k = 1 ∨ k = 2 ∨ k = 3 ∨ k = 4 by omega) with rfl | rfl | rfl | rfl | rfl
    iterate 4
      · go_wp2_with fail
        have qk0a := fun d os => cell_regrown k0a d os
        have qk0b := fun d os => cell_regrown k0b d os
        have qk0c := fun d os => cell_regrown k0c d os
        have qk0d := fun d os => cell_regrown k0d d os
        have qk1a := fun d os => cell_regrown k1a d os
        have qk1b := fun d os => cell_regrown k1b d os
        have qk1c := fun d os => cell_regrown k1c d os
        have qk1d := fun d os => cell_regrown k1d d os
        refine wp_region_quiet_below (by kernel_rfl) (by kernel_rfl) ?_
        repeat (first | go_big_quiet_step ((fail)) | quiet_step ((fail)))
        refine wpQuiet_nil ?_
        intro w2 hw2
        have b : Below wr.heap.size wr w2 := by obtain ⟨r, hr⟩ := hw2; rw [hr]; exact below_regrown _ _ _
        clear hw2 qk0a qk0b qk0c qk0d qk1a qk1b qk1c qk1d
        have Sw2 := Lib.hid b.size
        have HB := Lib.hid (chain0 (w := w) (by repeat (first | with_reducible exact Below.refl _ _ | with_reducible exact HB.out | with_reducible apply Below.drew | with_reducible apply bdN | with_reducible refine Below.alloc ?_ (by first | exact Nat.le_refl _ | with_reducible exact HB.out.size | omega | (simp; done) | (simp; omega) | (have := HB.out.size; simp at *; omega)) _ | with_reducible refine Below.setCell ?_ (by first | exact Nat.le_refl _ | with_reducible exact HB.out.size | omega | (simp; done) | (simp; omega) | (have := HB.out.size; simp at *; omega)) _)) b)
        have K0 : Hid (Box _ (w.heap.size) (x)) := Lib.hid (Box.below (by repeat (first | with_reducible exact K0.out | with_reducible apply Box.drewN | with_reducible apply Box.drew | (with_reducible refine Box.newAt ?_ ?_ <;> first | (simp; done) | rfl) | with_reducible apply Box.alloc)) b)
        have K1 : Hid (Box _ (w.heap.size + 1) (y)) := Lib.hid (Box.below (by repeat (first | with_reducible exact K1.out | with_reducible apply Box.drewN | with_reducible apply Box.drew | (with_reducible refine Box.newAt ?_ ?_ <;> first | (simp; done) | rfl) | with_reducible apply Box.alloc)) b)
        try clear k0a k0b k0c k0d k0z
        have k0z := K0.out.lt
        obtain ⟨k0a, k0b, k0c, k0d⟩ := K0.out.cell
        try clear k1a k1b k1c k1d k1z
        have k1z := K1.out.lt
        obtain ⟨k1a, k1b, k1c, k1d⟩ := K1.out.cell
        clear b
        go_wp2_with fail
        all_goals go_roundw
        · refine ⟨k1, by have := HK.out; omega, by rw [HK.out]; rfl, ?_, HB, K0, K1⟩
          rw [HS.out]
          simp [tr, one, ne_yes ‹_›]
        · simp [intOf]
        · refine ⟨k1, by have := HK.out; omega, by rw [HK.out]; rfl, ?_, HB, K0, K1⟩
          rw [HS.out]
          simp [tr, one, ne_no ‹_›]
        · simp [intOf]
    · go_wp2_with fail
      go_ret
      exact ⟨ret_int (cnt_ne _ _), HB.out⟩
end Go.Proofs.Ytjmlefcmhjodeaa.cards
