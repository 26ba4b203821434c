/- Draws: a number below a bound, once in so many times, one of some numbers. -/
import Derived.Test.YtcjmlddpjbneiaaKa
namespace Go.Proofs.Ytcjmlddpjbneiaa.draw
open Go.RowKit
open cards
set_option linter.unusedVariables false

abbrev nums (l : List Int) : List Value := l.map (fun b => .int .i64 b)
theorem Cur.more {w : World} {g : Nat} {p : Option Addr} {n c : Nat} {l : List Int} {N M : Nat} (h : Cur w g p n c l N) (hM : N ≤ M) : Cur w g p n c l M := by
  obtain ⟨a, s, h1, h2, h3, h4⟩ := h
  exact ⟨a, s, h1, h2, by omega, h4⟩

set_option maxRecDepth 100000 in
set_option maxHeartbeats 4000000 in
theorem pick_ (k : Int) (g : Nat) (p : Option Addr) (n c : Nat) (l : List Int) (N : Nat) (w : World) (hN : N ≤ 900000) (hm : n ≤ 1000000000) (hk : 1 ≤ k) (hk2 : k ≤ 1000000000) (h : Cur w g p n c l N) :
    Calls Try.prog 31 #[.pointer (some ⟨g, 0, none⟩), .int .i64 k] w fun e w' => ∃ b : Int, e = .returned (.int .i64 b) ∧ 0 ≤ b ∧ b < k ∧ Cur w' g p n c l (N + 2) ∧ w.grownBy w' (some g) := by
  have HC := Lib.hid h
  clear h
  by_cases hq : k ≤ 1
  · go_enter Try.func31, Try.ntmps31
    go_wp2_with fail
    go_ret
    exact ⟨0, rfl, by omega, by omega, HC.out.more (by omega), World.grownBy.refl _ _⟩
  · go_enter Try.func31, Try.ntmps31
    go_wp2_with fail
    refine (next_ g p n c l N _ (by omega) hm HC.out).mono ?_
    rintro e w1 ⟨b, rfl, b0, b1, C, G⟩
    have HC := Lib.hid C
    have HG := Lib.hid G
    clear C G
    by_cases h2 : k ≤ 200
    · go_wp2_with fail
      go_ret
      exact ⟨b % k, rfl, Int.emod_nonneg _ (by omega), Int.emod_lt_of_pos _ (by omega), HC.out.more (by omega), HG.out⟩
    · go_wp2_with fail
      refine (next_ g p n c l (N + 1) _ (by omega) hm HC.out).mono ?_
      rintro e w2 ⟨b2, rfl, b3, b4, C, G⟩
      have HC := Lib.hid C
      have HG := Lib.hid (HG.out.trans G)
      clear C G
      go_wp2_with fail
      go_ret
      exact ⟨(b * 256 + b2) % k, rfl, Int.emod_nonneg _ (by omega), Int.emod_lt_of_pos _ (by omega), HC.out, HG.out⟩

set_option maxRecDepth 100000 in
set_option maxHeartbeats 4000000 in
theorem one_ (k : Int) (g : Nat) (p : Option Addr) (n c : Nat) (l : List Int) (N : Nat) (w : World) (hN : N ≤ 900000) (hm : n ≤ 1000000000) (hk : 1 ≤ k) (hk2 : k ≤ 1000000000) (h : Cur w g p n c l N) :
    Calls Try.prog 32 #[.pointer (some ⟨g, 0, none⟩), .int .i64 k] w fun e w' => ∃ b : Bool, e = .returned (.bool b) ∧ Cur w' g p n c l (N + 2) ∧ w.grownBy w' (some g) := by
  have HC := Lib.hid h
  clear h
  go_enter Try.func32, Try.ntmps32
  go_wp2_with fail
  refine (pick_ k g p n c l N _ hN hm hk hk2 HC.out).mono ?_
  rintro e w1 ⟨b, rfl, b0, b1, C, G⟩
  have HC := Lib.hid C
  have HG := Lib.hid G
  clear C G
  go_wp2_with fail
  go_ret
  exact ⟨_, rfl, HC.out, HG.out⟩

end Go.Proofs.Ytcjmlddpjbneiaa.draw
