/- CountFlats, the program's and the model's. -/
import Derived.Test.YtdhcdogmbclhaaaIh
import Derived.Test.YtdhcdogmbclhaaaVx
namespace Go.Proofs.Ytdhcdogmbclhaaa.planes
open Go.RowKit
open cards reg
set_option linter.unusedVariables false

/-- What CountFlats returns. -/
def cfR (d : Int) : Int × Bool := if d = 0 then (81, true) else if d = 1 then (1080, true) else if d = 2 then (1170, true) else if d = 3 then (120, true) else if d = 4 then (1, true) else (0, false)
theorem cfR_no {d : Int} (h : d < 0 ∨ 4 < d) : cfR d = (0, false) := by
  unfold cfR
  rw [if_neg (by omega), if_neg (by omega), if_neg (by omega), if_neg (by omega), if_neg (by omega)]

set_option maxRecDepth 100000 in
set_option maxHeartbeats 2000000 in
theorem impl_cf (d : Int) (w : World) :
    Calls Try.prog 35 #[.int .i64 d] w fun e w' => e = .returned (.tuple #[.int .i64 (cfR d).1, .bool (cfR d).2]) ∧ Below w.heap.size w w' := by
  have HB : Hid (Below w.heap.size w (w.alloc (.cells #[.int .i64 81, .int .i64 1080, .int .i64 1170, .int .i64 120, .int .i64 1] 59))) := Lib.hid ((Below.refl _ _).alloc (Nat.le_refl _) _)
  rcases (show d = 0 ∨ d = 1 ∨ d = 2 ∨ d = 3 ∨ d = 4 ∨ d < 0 ∨ 4 < d by omega) with rfl | rfl | rfl | rfl | rfl | h | h
  iterate 5 (
    · go_enter Try.func35, Try.ntmps35
      go_wp2_with fail
      go_ret2
      exact ⟨rfl, HB.out⟩)
  · have HT := Lib.hid (cfR_no (.inl h))
    go_enter Try.func35, Try.ntmps35
    go_wp2_with fail
    go_ret2
    exact ⟨by rw [HT.out]; rfl, HB.out⟩
  · have HT := Lib.hid (cfR_no (.inr h))
    have h2 : ¬ d < 0 := by omega
    have h3 : (5 : Int) ≤ d := by omega
    go_enter Try.func35, Try.ntmps35
    go_wp2_with fail
    go_ret2
    exact ⟨by rw [HT.out]; rfl, HB.out⟩

set_option maxRecDepth 100000 in
set_option maxHeartbeats 2000000 in
theorem spec_cf (d : Int) (w : World) :
    Calls Try.prog 34 #[.int .i64 d] w fun e w' => e = .returned (.tuple #[.int .i64 (cfR d).1, .bool (cfR d).2]) ∧ Below w.heap.size w w' := by
  rcases (show d = 0 ∨ d = 1 ∨ d = 2 ∨ d = 3 ∨ d = 4 ∨ d < 0 ∨ 4 < d by omega) with rfl | rfl | rfl | rfl | rfl | h | h
  · have ix : ∀ w : World, (Instr.index 59 (.agg #[.int .i64 81, .int .i64 1080, .int .i64 1170, .int .i64 120, .int .i64 1]) (.int .i64 0)).run Try.prog w = .ok (.int .i64 81) w := fun _ => by kernel_rfl
    go_enter Try.func34, Try.ntmps34
    go_wp2_with fail
    refine (in_yes _ 0 4 _ (by decide) (by decide)).mono ?_
    rintro e w' ⟨rfl, rfl⟩
    go_wp2_with fail
    go_ret2
    exact ⟨rfl, Below.refl _ _⟩
  · have ix : ∀ w : World, (Instr.index 59 (.agg #[.int .i64 81, .int .i64 1080, .int .i64 1170, .int .i64 120, .int .i64 1]) (.int .i64 1)).run Try.prog w = .ok (.int .i64 1080) w := fun _ => by kernel_rfl
    go_enter Try.func34, Try.ntmps34
    go_wp2_with fail
    refine (in_yes _ 0 4 _ (by decide) (by decide)).mono ?_
    rintro e w' ⟨rfl, rfl⟩
    go_wp2_with fail
    go_ret2
    exact ⟨rfl, Below.refl _ _⟩
  · have ix : ∀ w : World, (Instr.index 59 (.agg #[.int .i64 81, .int .i64 1080, .int .i64 1170, .int .i64 120, .int .i64 1]) (.int .i64 2)).run Try.prog w = .ok (.int .i64 1170) w := fun _ => by kernel_rfl
    go_enter Try.func34, Try.ntmps34
    go_wp2_with fail
    refine (in_yes _ 0 4 _ (by decide) (by decide)).mono ?_
    rintro e w' ⟨rfl, rfl⟩
    go_wp2_with fail
    go_ret2
    exact ⟨rfl, Below.refl _ _⟩
  · have ix : ∀ w : World, (Instr.index 59 (.agg #[.int .i64 81, .int .i64 1080, .int .i64 1170, .int .i64 120, .int .i64 1]) (.int .i64 3)).run Try.prog w = .ok (.int .i64 120) w := fun _ => by kernel_rfl
    go_enter Try.func34, Try.ntmps34
    go_wp2_with fail
    refine (in_yes _ 0 4 _ (by decide) (by decide)).mono ?_
    rintro e w' ⟨rfl, rfl⟩
    go_wp2_with fail
    go_ret2
    exact ⟨rfl, Below.refl _ _⟩
  · have ix : ∀ w : World, (Instr.index 59 (.agg #[.int .i64 81, .int .i64 1080, .int .i64 1170, .int .i64 120, .int .i64 1]) (.int .i64 4)).run Try.prog w = .ok (.int .i64 1) w := fun _ => by kernel_rfl
    go_enter Try.func34, Try.ntmps34
    go_wp2_with fail
    refine (in_yes _ 0 4 _ (by decide) (by decide)).mono ?_
    rintro e w' ⟨rfl, rfl⟩
    go_wp2_with fail
    go_ret2
    exact ⟨rfl, Below.refl _ _⟩
  all_goals
    have HT := Lib.hid (cfR_no (d := d) (by omega))
    have HN := Lib.hid (fun w => in_no d 0 4 w (by omega))
    go_enter Try.func34, Try.ntmps34
    go_wp2_with fail
    refine (HN.out _).mono ?_
    rintro e w' ⟨rfl, rfl⟩
    go_wp2_with fail
    go_ret2
    exact ⟨by rw [HT.out]; rfl, Below.refl _ _⟩
end Go.Proofs.Ytdhcdogmbclhaaa.planes
