/- The law on DeckParting: what it draws, and its own helpers. -/
import Derived.Test.YtnibkipepmakgaaKe
import Derived.Test.YtnibkipepmakgaaZt
import Derived.BigQuiet
namespace Go.Proofs.Ytnibkipepmakgaa.draw
open Go.RowKit
open cards
set_option linter.unusedVariables false

set_option maxRecDepth 100000 in
theorem v_big (p : Option Addr) (n c : Nat) (w : World) (b : Bool) (hb : decide ((65536 : Int) < n) = b) :
    Calls Try.prog 4 #[.slice p n c] w fun e w' => e = .returned (.bool b) ∧ w = w' := by
  have HBo := Lib.hid hb
  clear hb
  go_enter Try.func4, Try.ntmps4
  go_wp2_with fail
  go_ret
  exact ⟨ret_bool HBo.out, rfl⟩
end Go.Proofs.Ytnibkipepmakgaa.draw
namespace Go.Proofs.Ytnibkipepmakgaa.parting
open Go.RowKit
open cards
set_option linter.unusedVariables false

theorem same3_self (x : A3) : same3 x x = true := by simp [same3]
set_option maxRecDepth 100000 in
set_option maxHeartbeats 4000000 in
theorem v_lines (l : List A3) (p1 p2 : Option Addr) (n c1 c2 : Nat) (w : World) (hn : l.length = n) (hl : n ≤ 1000000000) (hr1 : Rd w p1 (A3.flat l)) (hr2 : Rd w p2 (A3.flat l)) (hw : ∀ x ∈ l, wf3 x) :
    Calls Try.prog 14 #[.slice p1 n c1, .slice p2 n c2] w fun e w' => e = .returned (.bool true) ∧ Below w.heap.size w w' := by
  have HN := Lib.hid hn
  have H1 := Lib.hid hr1
  have H2 := Lib.hid hr2
  have HW := Lib.hid hw
  clear hn hr1 hr2 hw
  go_enter Try.func14, Try.ntmps14
  go_wp2_with fail
  go_loopw [5] (fun i wr => ∃ k : Nat, k ≤ n ∧ i = .int .i64 k ∧ Hid (Below w.heap.size w wr)) (fun i _ => n - (intOf i).toNat)
  case atStart => exact ⟨0, Nat.zero_le _, rfl, Below.refl _ _⟩
  case round =>
    obtain ⟨k, hk, rfl, HB⟩ := hrel
    by_cases hlt : k < n
    · obtain ⟨b, o, x, rfl, hb, hx, c0, c1, c2⟩ := (H1.out.below HB.out).aA3 (k := k) (by rw [HN.out]; exact hlt)
      obtain ⟨b2, o2, y, rfl, hb2, hy, d0, d1, d2⟩ := (H2.out.below HB.out).aA3 (k := k) (by rw [HN.out]; exact hlt)
      obtain rfl : x = y := by rw [hx] at hy; injection hy
      have he := eq3 x x (HW.out x (List.mem_of_getElem? hx)) (HW.out x (List.mem_of_getElem? hx))
      rw [same3_self] at he
      have m0 : (0 : Int) ≤ (k : Int) := by omega
      have m1 : (k : Int) < (n : Int) := by omega
      clear hx hy
      go_wp2_with fail
      go_quiet (fail)
      go_wp2_with fail
      go_roundw
      case rel => exact ⟨k + 1, by omega, by go_num, Lib.hid (bdN HB.out _)⟩
      case measure => simp [intOf]; omega
    · obtain rfl : k = n := by omega
      go_wp2_with fail
      go_ret
      exact ⟨rfl, HB.out⟩
end Go.Proofs.Ytnibkipepmakgaa.parting
