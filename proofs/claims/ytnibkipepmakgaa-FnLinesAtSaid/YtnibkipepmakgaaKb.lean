/- Draws: a number below a bound, once in so many times, one of some numbers. -/
import Derived.Test.YtnibkipepmakgaaKa
namespace Go.Proofs.Ytnibkipepmakgaa.draw
open Go.RowKit
open cards
set_option linter.unusedVariables false

abbrev nums (l : List Int) : List Value := l.map (fun b => .int .i64 b)
theorem Cur.more {w : World} {g : Nat} {p : Option Addr} {n c : Nat} {l : List Int} {N M : Nat} (h : Cur w g p n c l N) (hM : N ≤ M) : Cur w g p n c l M := by
  obtain ⟨a, s, h1, h2, h3, h4⟩ := h
  exact ⟨a, s, h1, h2, by omega, h4⟩

set_option maxRecDepth 100000 in
set_option maxHeartbeats 4000000 in
theorem pick_ (k : Int) (g : Nat) (p : Option Addr) (n c : Nat) (l : List Int) (N : Nat) (w : World) (hN : N ≤ 900000) (hm : n ≤ 1000000000) (hk : 1 ≤ k) (hk2 : k ≤ 1000000000) (h : Cur w g p n c l N) :
    Calls Try.prog 18 #[.pointer (some ⟨g, 0, none⟩), .int .i64 k] w fun e w' => ∃ b : Int, e = .returned (.int .i64 b) ∧ 0 ≤ b ∧ b < k ∧ Cur w' g p n c l (N + 2) ∧ w.grownBy w' (some g) := by
  have HC := Lib.hid h
  clear h
  by_cases hq : k ≤ 1
  · go_enter Try.func18, Try.ntmps18
    go_wp2_with fail
    go_ret
    exact ⟨0, rfl, by omega, by omega, HC.out.more (by omega), World.grownBy.refl _ _⟩
  · go_enter Try.func18, Try.ntmps18
    go_wp2_with fail
    refine (next_ g p n c l N _ (by omega) hm HC.out).mono ?_
    rintro e w1 ⟨b, rfl, b0, b1, C, G⟩
    have HC := Lib.hid C
    have HG := Lib.hid G
    clear C G
    by_cases h2 : k ≤ 200
    · go_wp2_with fail
      go_ret
      exact ⟨b % k, rfl, Int.emod_nonneg _ (by omega), Int.emod_lt_of_pos _ (by omega), HC.out.more (by omega), HG.out⟩
    · go_wp2_with fail
      refine (next_ g p n c l (N + 1) _ (by omega) hm HC.out).mono ?_
      rintro e w2 ⟨b2, rfl, b3, b4, C, G⟩
      have HC := Lib.hid C
      have HG := Lib.hid (HG.out.trans G)
      clear C G
      go_wp2_with fail
      go_ret
      exact ⟨(b * 256 + b2) % k, rfl, Int.emod_nonneg _ (by omega), Int.emod_lt_of_pos _ (by omega), HC.out, HG.out⟩

set_option maxRecDepth 100000 in
set_option maxHeartbeats 4000000 in
theorem one_ (k : Int) (g : Nat) (p : Option Addr) (n c : Nat) (l : List Int) (N : Nat) (w : World) (hN : N ≤ 900000) (hm : n ≤ 1000000000) (hk : 1 ≤ k) (hk2 : k ≤ 1000000000) (h : Cur w g p n c l N) :
    Calls Try.prog 36 #[.pointer (some ⟨g, 0, none⟩), .int .i64 k] w fun e w' => ∃ b : Bool, e = .returned (.bool b) ∧ Cur w' g p n c l (N + 2) ∧ w.grownBy w' (some g) := by
  have HC := Lib.hid h
  clear h
  go_enter Try.func36, Try.ntmps36
  go_wp2_with fail
  refine (pick_ k g p n c l N _ hN hm hk hk2 HC.out).mono ?_
  rintro e w1 ⟨b, rfl, b0, b1, C, G⟩
  have HC := Lib.hid C
  have HG := Lib.hid G
  clear C G
  go_wp2_with fail
  go_ret
  exact ⟨_, rfl, HC.out, HG.out⟩

set_option maxRecDepth 100000 in
set_option maxHeartbeats 4000000 in
theorem among_ (xs : List Int) (g b2 m c2 : Nat) (p : Option Addr) (n c : Nat) (l : List Int) (N : Nat) (w : World) (hN : N ≤ 900000) (hm : n ≤ 1000000000) (hk : 1 ≤ m) (hk2 : m ≤ 1000000000) (hx : xs.length = m) (hr : Rd w (some ⟨b2, 0, none⟩) (nums xs)) (hne : b2 ≠ g) (h : Cur w g p n c l N) :
    Calls Try.prog 37 #[.pointer (some ⟨g, 0, none⟩), .slice (some ⟨b2, 0, none⟩) m c2] w fun e w' => ∃ x : Int, e = .returned (.int .i64 x) ∧ x ∈ xs ∧ Cur w' g p n c l (N + 2) ∧ w.grownBy w' (some g) := by
  have HC := Lib.hid h
  have HX := Lib.hid hx
  have HR := Lib.hid hr
  clear h hx hr
  go_enter Try.func37, Try.ntmps37
  go_wp2_with fail
  refine (pick_ m g p n c l N _ hN hm (by omega) (by omega) HC.out).mono ?_
  rintro e w1 ⟨b, rfl, b0, b1, C, G⟩
  have HC := Lib.hid C
  have HR := Lib.hid (Rd.grown HR.out G (fun _ q e => by cases e; exact hne))
  have HG := Lib.hid G
  clear C G
  obtain ⟨k, rfl⟩ : ∃ k : Nat, b = k := ⟨b.toNat, by omega⟩
  have hk : k < xs.length := by have := HX.out; omega
  have hx : xs[k]? = some xs[k] := List.getElem?_eq_getElem hk
  obtain ⟨x, hxx⟩ : ∃ x, xs[k] = x := ⟨_, rfl⟩
  rw [hxx] at hx
  have HM := Lib.hid (List.mem_of_getElem? hx)
  obtain ⟨_, _, e, _, hc⟩ := HR.out (by simp [nums]; omega)
  cases e
  have c0 : w1.cell? ⟨b2, 0 + k, none⟩ = some (.int .i64 x) := hc k _ (by simp [nums, hx])
  have m2 : (0 : Int) ≤ k := by omega
  rw [Nat.zero_add] at c0
  clear hc hx hxx hk
  go_wp2_with fail
  go_ret
  exact ⟨_, rfl, HM.out, HC.out, HG.out⟩
end Go.Proofs.Ytnibkipepmakgaa.draw
