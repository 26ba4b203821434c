/- Cards with numbers: what CardAt returns. -/
import Derived.Test.YtjmlefcmhjodeaaC6
namespace Go.Proofs.Ytjmlefcmhjodeaa.cards
open Go.RowKit
set_option linter.unusedVariables false
theorem same_refl (x : Cd) : same x x = true := by simp [same]
theorem in_yes (a lo hi : Int) (w : World) (h0 : lo ≤ a) (h1 : a ≤ hi) : Calls Try.prog 50 #[.int .i64 a, .int .i64 lo, .int .i64 hi] w fun e w' => e = .returned (.bool true) ∧ w = w' := by
  go_enter Try.func50, Try.ntmps50
  go_wp2
  go_ret
  exact ⟨ret_bool (by simp [h0, h1]), rfl⟩
theorem in_no (a lo hi : Int) (w : World) (h : a < lo ∨ hi < a) : Calls Try.prog 50 #[.int .i64 a, .int .i64 lo, .int .i64 hi] w fun e w' => e = .returned (.bool false) ∧ w = w' := by
  rcases h with h | h
  · go_enter Try.func50, Try.ntmps50
    go_wp2
    go_ret
    exact ⟨rfl, rfl⟩
  · have hd : decide (a ≤ hi) = false := by simp; omega
    have HD := Lib.hid hd
    clear hd
    go_enter Try.func50, Try.ntmps50
    go_wp2
    all_goals go_ret
    all_goals first | exact ⟨ret_bool HD.out, rfl⟩ | exact ⟨rfl, rfl⟩
def atR (n : Int) : Cd × Bool := if 0 ≤ n ∧ n ≤ 80 then (cdAt n, true) else (zero, false)

end Go.Proofs.Ytjmlefcmhjodeaa.cards
