/- DeckParting: the mathematics, and the model's. -/
import Derived.Test.YtfbcjcfhdclklaaZg
import Derived.Test.YtfbcjcfhdclklaaZt
namespace Go.Proofs.Ytfbcjcfhdclklaa.parting
open Go.RowKit
open cards
set_option linter.unusedVariables false

theorem cdAt_ok7 {n : Int} (h0 : 0 ≤ n) (h1 : n ≤ 80) : (cdAt n).ok = true := Cd.mk_ok (by unfold cdAt; simp only; omega)
/-- The sum of two cards, trait by trait. -/
def plus (x c : Cd) : Cd := ⟨(x.a + c.a) % 3, (x.b + c.b) % 3, (x.c + c.c) % 3, (x.d + c.d) % 3⟩
theorem plus_ok (x c : Cd) : (plus x c).ok = true := Cd.mk_ok (by unfold plus; simp only; omega)
def lo2 (a b : Int) : Int := if a < b then a else b
def hi2 (a b : Int) : Int := if b < a then a else b
/-- The line of a card's number and the two behind it, told at the least one. -/
def dpAt (c : Cd) (n : Nat) : List A3 := if (n : Int) < num (plus (cdAt n) c) ∧ (n : Int) < num (plus (plus (cdAt n) c) c) then [⟨(n : Int), lo2 (num (plus (cdAt n) c)) (num (plus (plus (cdAt n) c) c)), hi2 (num (plus (cdAt n) c)) (num (plus (plus (cdAt n) c) c))⟩] else []
def dpL (c : Cd) : Nat → List A3
  | 0 => []
  | n + 1 => dpL c n ++ dpAt c n
theorem dpL_len (c : Cd) : ∀ n, (dpL c n).length ≤ n
  | 0 => Nat.le_refl _
  | n + 1 => by
    have := dpL_len c n
    simp only [dpL, List.length_append, dpAt]
    split <;> simp <;> omega
def dpR (c : Cd) : List A3 × Bool := if c.ok = true ∧ same c zero = false then (dpL c 81, true) else ([], false)
theorem dpR_no {c : Cd} (h : ¬ (c.ok = true ∧ same c zero = false)) : dpR c = ([], false) := by unfold dpR; rw [if_neg h]
theorem dpR_yes {c : Cd} (h : c.ok = true) (h2 : same c zero = false) : dpR c = (dpL c 81, true) := by unfold dpR; rw [if_pos ⟨h, h2⟩]
theorem dpR_len (c : Cd) : (dpR c).1.length ≤ 1000 := by
  unfold dpR
  split
  · have := dpL_len c 81
    show (dpL c 81).length ≤ _
    omega
  · simp

set_option maxHeartbeats 400000 in
theorem l1_least7 (a b : Int) (w : World) :
    Calls Try.prog 47 #[.int .i64 a, .int .i64 b] w fun e w' => e = .returned (.int .i64 (lo2 a b)) ∧ Below w.heap.size w w' := by
  by_cases h : a < b
  · have HT := Lib.hid (show lo2 a b = a from if_pos h)
    rw [HT.out]
    go_enter Try.func47, Try.ntmps47
    go_wp2
    go_ret
    exact ⟨rfl, by repeat (first | with_reducible exact Below.refl _ _ | with_reducible exact HB.out | with_reducible apply Below.drew | with_reducible apply bdN | with_reducible refine Below.alloc ?_ (by first | exact Nat.le_refl _ | with_reducible exact HB.out.size | omega | (simp; done) | (simp; omega) | (have := HB.out.size; simp at *; omega)) _ | with_reducible refine Below.setCell ?_ (by first | exact Nat.le_refl _ | with_reducible exact HB.out.size | omega | (simp; done) | (simp; omega) | (have := HB.out.size; simp at *; omega)) _)⟩
  · have HT := Lib.hid (show lo2 a b = b from if_neg h)
    rw [HT.out]
    go_enter Try.func47, Try.ntmps47
    go_wp2
    go_ret
    exact ⟨rfl, by repeat (first | with_reducible exact Below.refl _ _ | with_reducible exact HB.out | with_reducible apply Below.drew | with_reducible apply bdN | with_reducible refine Below.alloc ?_ (by first | exact Nat.le_refl _ | with_reducible exact HB.out.size | omega | (simp; done) | (simp; omega) | (have := HB.out.size; simp at *; omega)) _ | with_reducible refine Below.setCell ?_ (by first | exact Nat.le_refl _ | with_reducible exact HB.out.size | omega | (simp; done) | (simp; omega) | (have := HB.out.size; simp at *; omega)) _)⟩
set_option maxHeartbeats 400000 in
theorem l1_most7 (a b : Int) (w : World) :
    Calls Try.prog 46 #[.int .i64 a, .int .i64 b] w fun e w' => e = .returned (.int .i64 (hi2 a b)) ∧ Below w.heap.size w w' := by
  by_cases h : b < a
  · have HT := Lib.hid (show hi2 a b = a from if_pos h)
    rw [HT.out]
    go_enter Try.func46, Try.ntmps46
    go_wp2
    go_ret
    exact ⟨rfl, by repeat (first | with_reducible exact Below.refl _ _ | with_reducible exact HB.out | with_reducible apply Below.drew | with_reducible apply bdN | with_reducible refine Below.alloc ?_ (by first | exact Nat.le_refl _ | with_reducible exact HB.out.size | omega | (simp; done) | (simp; omega) | (have := HB.out.size; simp at *; omega)) _ | with_reducible refine Below.setCell ?_ (by first | exact Nat.le_refl _ | with_reducible exact HB.out.size | omega | (simp; done) | (simp; omega) | (have := HB.out.size; simp at *; omega)) _)⟩
  · have HT := Lib.hid (show hi2 a b = b from if_neg h)
    rw [HT.out]
    go_enter Try.func46, Try.ntmps46
    go_wp2
    go_ret
    exact ⟨rfl, by repeat (first | with_reducible exact Below.refl _ _ | with_reducible exact HB.out | with_reducible apply Below.drew | with_reducible apply bdN | with_reducible refine Below.alloc ?_ (by first | exact Nat.le_refl _ | with_reducible exact HB.out.size | omega | (simp; done) | (simp; omega) | (have := HB.out.size; simp at *; omega)) _ | with_reducible refine Below.setCell ?_ (by first | exact Nat.le_refl _ | with_reducible exact HB.out.size | omega | (simp; done) | (simp; omega) | (have := HB.out.size; simp at *; omega)) _)⟩

set_option maxRecDepth 100000 in
set_option maxHeartbeats 2000000 in
theorem l7_plus (x y : Cd) (w : World) (hx : x.ok = true) (hy : y.ok = true) :
    Calls Try.prog 84 #[x.val, y.val] w fun e w' => e = .returned (plus x y).val ∧ Below w.heap.size w w' := by
  obtain ⟨⟨x1, x2⟩, ⟨x3, x4⟩, ⟨x5, x6⟩, x7, x8⟩ := Cd.bd hx
  obtain ⟨⟨y1, y2⟩, ⟨y3, y4⟩, ⟨y5, y6⟩, y7, y8⟩ := Cd.bd hy
  clear hx hy
  go_enter Try.func84, Try.ntmps84
  go_wp2
  refine wp_loop_rounds 5 ?_
  iterate 4 (rw [rounds_succ]; go_wp2; go_region; go_wp2)
  rw [rounds_succ]
  go_wp2
  exact bodyPost_ret (v := (plus x y).val) (by simp [results, Try.results84, go_sem, plus]) rfl ⟨rfl, by repeat (first | with_reducible exact Below.refl _ _ | with_reducible exact HB.out | with_reducible apply Below.drew | with_reducible apply bdN | with_reducible refine Below.alloc ?_ (by first | exact Nat.le_refl _ | with_reducible exact HB.out.size | omega | (simp; done) | (simp; omega) | (have := HB.out.size; simp at *; omega)) _ | with_reducible refine Below.setCell ?_ (by first | exact Nat.le_refl _ | with_reducible exact HB.out.size | omega | (simp; done) | (simp; omega) | (have := HB.out.size; simp at *; omega)) _)⟩

set_option maxRecDepth 100000 in
set_option maxHeartbeats 1000000 in
theorem l2_at7 (n : Int) (w : World) (h0 : 0 ≤ n) (h1 : n ≤ 80) :
    Calls Try.prog 83 #[.int .i64 n] w fun e w' => e = .returned (cdAt n).val ∧ Below w.heap.size w w' := by
  go_enter Try.func83, Try.ntmps83
  go_wp2
  exact bodyPost_ret (v := (cdAt n).val) (by simp [results, Try.results83, go_sem, cdAt, *]) rfl ⟨rfl, by repeat (first | with_reducible exact Below.refl _ _ | with_reducible exact HB.out | with_reducible apply Below.drew | with_reducible apply bdN | with_reducible refine Below.alloc ?_ (by first | exact Nat.le_refl _ | with_reducible exact HB.out.size | omega | (simp; done) | (simp; omega) | (have := HB.out.size; simp at *; omega)) _ | with_reducible refine Below.setCell ?_ (by first | exact Nat.le_refl _ | with_reducible exact HB.out.size | omega | (simp; done) | (simp; omega) | (have := HB.out.size; simp at *; omega)) _)⟩
end Go.Proofs.Ytfbcjcfhdclklaa.parting
