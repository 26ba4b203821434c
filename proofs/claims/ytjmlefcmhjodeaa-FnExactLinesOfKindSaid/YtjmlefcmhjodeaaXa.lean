/- Kinds of lines: how many lines of a kind there are: the program and the model alike. -/
import Derived.Test.YtjmlefcmhjodeaaC7
namespace Go.Proofs.Ytjmlefcmhjodeaa.others
open Go.RowKit
open cards
set_option linter.unusedVariables false

def aokR (k : Int) : Int × Bool := if k = 1 then (108, true) else if k = 2 then (324, true) else if k = 3 then (432, true) else if k = 4 then (216, true) else (0, false)
theorem aokR_no {k : Int} (h : k < 1 ∨ 4 < k) : aokR k = (0, false) := by
  unfold aokR
  rw [if_neg (by omega), if_neg (by omega), if_neg (by omega), if_neg (by omega)]
theorem is_kind (k : Int) (w : World) :
    Calls Try.prog 51 #[.int .i64 k] w fun e w' => e = .returned (.bool (decide (1 ≤ k ∧ k ≤ 4))) ∧ w = w' := by
  rcases (show k < 1 ∨ (1 ≤ k ∧ 4 < k) ∨ (1 ≤ k ∧ k ≤ 4) by omega) with h | ⟨h, h2⟩ | ⟨h, h2⟩
  · go_enter Try.func51, Try.ntmps51
    go_wp2
    go_ret
    all_goals exact ⟨ret_bool (by symm; simp; omega), rfl⟩
  · have hd : decide (k ≤ 4) = false := decide_eq_false (by omega)
    have HD := Lib.hid hd
    clear hd
    go_enter Try.func51, Try.ntmps51
    go_wp2
    all_goals go_ret
    all_goals exact ⟨ret_bool (by simp [h]), rfl⟩
  · go_enter Try.func51, Try.ntmps51
    go_wp2
    all_goals go_ret
    all_goals exact ⟨ret_bool (by simp [h, h2]), rfl⟩

set_option maxRecDepth 100000 in
set_option maxHeartbeats 1000000 in
theorem impl_aok (k : Int) (w : World) :
    Calls Try.prog 15 #[.int .i64 k] w fun e w' => e = .returned (.tuple #[.int .i64 (aokR k).1, .bool (aokR k).2]) ∧ Below w.heap.size w w' := by
  have HK := Lib.hid (fun w => is_kind k w)
  rcases (show k = 1 ∨ k = 2 ∨ k = 3 ∨ k = 4 ∨ (k < 1 ∨ 4 < k) by omega) with rfl | rfl | rfl | rfl | h
  iterate 4
    · go_enter Try.func15, Try.ntmps15
      go_wp2_with fail
      refine (HK.out _).mono ?_
      rintro e w' ⟨rfl, rfl⟩
      go_wp2_with fail
      go_ret2
      exact ⟨rfl, by repeat (first | with_reducible exact Below.refl _ _ | with_reducible exact HB.out | with_reducible apply Below.drew | with_reducible apply bdN | with_reducible refine Below.alloc ?_ (by first | exact Nat.le_refl _ | with_reducible exact HB.out.size | omega | (simp; done) | (simp; omega) | (have := HB.out.size; simp at *; omega)) _ | with_reducible refine Below.setCell ?_ (by first | exact Nat.le_refl _ | with_reducible exact HB.out.size | omega | (simp; done) | (simp; omega) | (have := HB.out.size; simp at *; omega)) _)⟩
  · have HT := Lib.hid (aokR_no h)
    have hd : decide (1 ≤ k ∧ k ≤ 4) = false := decide_eq_false (by omega)
    rw [hd] at HK
    clear h hd
    go_enter Try.func15, Try.ntmps15
    go_wp2_with fail
    refine (HK.out _).mono ?_
    rintro e w' ⟨rfl, rfl⟩
    go_wp2_with fail
    go_ret2
    exact ⟨by rw [HT.out]; rfl, by repeat (first | with_reducible exact Below.refl _ _ | with_reducible exact HB.out | with_reducible apply Below.drew | with_reducible apply bdN | with_reducible refine Below.alloc ?_ (by first | exact Nat.le_refl _ | with_reducible exact HB.out.size | omega | (simp; done) | (simp; omega) | (have := HB.out.size; simp at *; omega)) _ | with_reducible refine Below.setCell ?_ (by first | exact Nat.le_refl _ | with_reducible exact HB.out.size | omega | (simp; done) | (simp; omega) | (have := HB.out.size; simp at *; omega)) _)⟩

set_option maxRecDepth 100000 in
set_option maxHeartbeats 1000000 in
theorem spec_aok (k : Int) (w : World) :
    Calls Try.prog 14 #[.int .i64 k] w fun e w' => e = .returned (.tuple #[.int .i64 (aokR k).1, .bool (aokR k).2]) ∧ Below w.heap.size w w' := by
  have i1 : ∀ w : World, (Instr.index 37 (.agg #[.int .i64 0, .int .i64 108, .int .i64 324, .int .i64 432, .int .i64 216]) (.int .i64 1)).run Try.prog w = .ok (.int .i64 108) w := fun _ => by kernel_rfl
  have i2 : ∀ w : World, (Instr.index 37 (.agg #[.int .i64 0, .int .i64 108, .int .i64 324, .int .i64 432, .int .i64 216]) (.int .i64 2)).run Try.prog w = .ok (.int .i64 324) w := fun _ => by kernel_rfl
  have i3 : ∀ w : World, (Instr.index 37 (.agg #[.int .i64 0, .int .i64 108, .int .i64 324, .int .i64 432, .int .i64 216]) (.int .i64 3)).run Try.prog w = .ok (.int .i64 432) w := fun _ => by kernel_rfl
  have i4 : ∀ w : World, (Instr.index 37 (.agg #[.int .i64 0, .int .i64 108, .int .i64 324, .int .i64 432, .int .i64 216]) (.int .i64 4)).run Try.prog w = .ok (.int .i64 216) w := fun _ => by kernel_rfl
  rcases (show k = 1 ∨ k = 2 ∨ k = 3 ∨ k = 4 ∨ (k < 1 ∨ 4 < k) by omega) with rfl | rfl | rfl | rfl | h
  iterate 4
    · go_enter Try.func14, Try.ntmps14
      go_wp2_with fail
      refine (in_yes _ 1 4 _ (by omega) (by omega)).mono ?_
      rintro e w' ⟨rfl, rfl⟩
      go_wp2_with fail
      go_ret2
      exact ⟨rfl, by repeat (first | with_reducible exact Below.refl _ _ | with_reducible exact HB.out | with_reducible apply Below.drew | with_reducible apply bdN | with_reducible refine Below.alloc ?_ (by first | exact Nat.le_refl _ | with_reducible exact HB.out.size | omega | (simp; done) | (simp; omega) | (have := HB.out.size; simp at *; omega)) _ | with_reducible refine Below.setCell ?_ (by first | exact Nat.le_refl _ | with_reducible exact HB.out.size | omega | (simp; done) | (simp; omega) | (have := HB.out.size; simp at *; omega)) _)⟩
  · have HT := Lib.hid (aokR_no h)
    go_enter Try.func14, Try.ntmps14
    go_wp2_with fail
    refine (in_no k 1 4 _ h).mono ?_
    rintro e w' ⟨rfl, rfl⟩
    go_wp2_with fail
    go_ret2
    exact ⟨by rw [HT.out]; rfl, by repeat (first | with_reducible exact Below.refl _ _ | with_reducible exact HB.out | with_reducible apply Below.drew | with_reducible apply bdN | with_reducible refine Below.alloc ?_ (by first | exact Nat.le_refl _ | with_reducible exact HB.out.size | omega | (simp; done) | (simp; omega) | (have := HB.out.size; simp at *; omega)) _ | with_reducible refine Below.setCell ?_ (by first | exact Nat.le_refl _ | with_reducible exact HB.out.size | omega | (simp; done) | (simp; omega) | (have := HB.out.size; simp at *; omega)) _)⟩
end Go.Proofs.Ytjmlefcmhjodeaa.others
