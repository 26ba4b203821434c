/- Cards: numbers of cards and cards with numbers, in how many traits two differ: the program and the model alike. -/
import Derived.Test.YtfnifkffhfhfmaaC2
namespace Go.Proofs.Ytfnifkffhfhfmaa.cards
open Go.RowKit
set_option linter.unusedVariables false

set_option maxRecDepth 100000 in
set_option maxHeartbeats 1000000 in
theorem number_of (x : Cd) (w : World) (hx : x.ok = true) :
    Calls Try.prog 95 #[x.val] w fun e w' => e = .returned (.int .i64 (num x)) ∧ Below w.heap.size w w' := by
  obtain ⟨⟨x1, x2⟩, ⟨x3, x4⟩, ⟨x5, x6⟩, x7, x8⟩ := Cd.bd hx
  clear hx
  have i0 : ∀ w : World, (Instr.index 34 x.val (.int .i64 0)).run Try.prog w = .ok (.int .i64 x.a) w := fun _ => by kernel_rfl
  have i1 : ∀ w : World, (Instr.index 34 x.val (.int .i64 1)).run Try.prog w = .ok (.int .i64 x.b) w := fun _ => by kernel_rfl
  have i2 : ∀ w : World, (Instr.index 34 x.val (.int .i64 2)).run Try.prog w = .ok (.int .i64 x.c) w := fun _ => by kernel_rfl
  have i3 : ∀ w : World, (Instr.index 34 x.val (.int .i64 3)).run Try.prog w = .ok (.int .i64 x.d) w := fun _ => by kernel_rfl
  go_enter Try.func95, Try.ntmps95
  go_wp2
  go_rounds 5
  go_ret
  exact ⟨ret_int (by unfold num; omega), by repeat (first | with_reducible exact Below.refl _ _ | with_reducible exact HB.out | with_reducible apply Below.drew | with_reducible apply bdN | with_reducible refine Below.alloc ?_ (by first | exact Nat.le_refl _ | (simp; done) | (simp; omega) | (have := HB.out.size; simp at *; omega)) _ | with_reducible refine Below.setCell ?_ (by first | exact Nat.le_refl _ | (simp; done) | (simp; omega) | (have := HB.out.size; simp at *; omega)) _)⟩

set_option maxRecDepth 100000 in
set_option maxHeartbeats 1000000 in
theorem l2_number (x : Cd) (w : World) (hx : x.ok = true) :
    Calls Try.prog 96 #[x.val] w fun e w' => e = .returned (.int .i64 (num x)) ∧ Below w.heap.size w w' := by
  obtain ⟨⟨x1, x2⟩, ⟨x3, x4⟩, ⟨x5, x6⟩, x7, x8⟩ := Cd.bd hx
  clear hx
  go_enter Try.func96, Try.ntmps96
  go_wp2
  go_ret
  exact ⟨ret_int (by unfold num; omega), by repeat (first | with_reducible exact Below.refl _ _ | with_reducible exact HB.out | with_reducible apply Below.drew | with_reducible apply bdN | with_reducible refine Below.alloc ?_ (by first | exact Nat.le_refl _ | (simp; done) | (simp; omega) | (have := HB.out.size; simp at *; omega)) _ | with_reducible refine Below.setCell ?_ (by first | exact Nat.le_refl _ | (simp; done) | (simp; omega) | (have := HB.out.size; simp at *; omega)) _)⟩

def numR (x : Cd) : Int × Bool := if x.ok then (num x, true) else (0, false)
theorem ret_ib {a b : Int} {c d : Bool} (h : (a, c) = (b, d)) : Ending.returned (.tuple #[.int .i64 a, .bool c]) = .returned (.tuple #[.int .i64 b, .bool d]) := by cases h; rfl

set_option maxRecDepth 100000 in
set_option maxHeartbeats 1000000 in
theorem impl_num (x : Cd) (w : World) :
    Calls Try.prog 35 #[x.val] w fun e w' => e = .returned (.tuple #[.int .i64 (numR x).1, .bool (numR x).2]) ∧ Below w.heap.size w w' := by
  go_enter Try.func35, Try.ntmps35
  go_wp2_with fail
  refine ((is_card x _)).mono ?_
  rintro e w1 ⟨rfl, b⟩
  have HB := Lib.hid (chain0 (w := w) (by repeat (first | with_reducible exact Below.refl _ _ | with_reducible exact HB.out | with_reducible apply Below.drew | with_reducible apply bdN | with_reducible refine Below.alloc ?_ (by first | exact Nat.le_refl _ | (simp; done) | (simp; omega) | (have := HB.out.size; simp at *; omega)) _ | with_reducible refine Below.setCell ?_ (by first | exact Nat.le_refl _ | (simp; done) | (simp; omega) | (have := HB.out.size; simp at *; omega)) _)) b)
  have K0 : Hid (Box _ (w.heap.size) x) := Lib.hid (Box.below (by repeat (first | with_reducible exact K0.out | with_reducible apply Box.drewN | with_reducible apply Box.drew | (with_reducible refine Box.newAt (by simp; done) ?_; rfl) | with_reducible apply Box.alloc)) b)
  try clear k0a k0b k0c k0d
  obtain ⟨k0a, k0b, k0c, k0d⟩ := K0.out.cell
  clear b
  cases hx : x.ok
  · go_wp2_with fail
    go_ret2
    exact ⟨ret_ib (by simp [numR, hx]), by repeat (first | with_reducible exact Below.refl _ _ | with_reducible exact HB.out | with_reducible apply Below.drew | with_reducible apply bdN | with_reducible refine Below.alloc ?_ (by first | exact Nat.le_refl _ | (simp; done) | (simp; omega) | (have := HB.out.size; simp at *; omega)) _ | with_reducible refine Below.setCell ?_ (by first | exact Nat.le_refl _ | (simp; done) | (simp; omega) | (have := HB.out.size; simp at *; omega)) _)⟩
  · have HX := Lib.hid hx
    go_wp2_with fail
    refine ((number_of x _ HX.out)).mono ?_
    rintro e w2 ⟨rfl, b⟩
    have HB := Lib.hid (chain0 (w := w) (by repeat (first | with_reducible exact Below.refl _ _ | with_reducible exact HB.out | with_reducible apply Below.drew | with_reducible apply bdN | with_reducible refine Below.alloc ?_ (by first | exact Nat.le_refl _ | (simp; done) | (simp; omega) | (have := HB.out.size; simp at *; omega)) _ | with_reducible refine Below.setCell ?_ (by first | exact Nat.le_refl _ | (simp; done) | (simp; omega) | (have := HB.out.size; simp at *; omega)) _)) b)
    have K0 : Hid (Box _ (w.heap.size) x) := Lib.hid (Box.below (by repeat (first | with_reducible exact K0.out | with_reducible apply Box.drewN | with_reducible apply Box.drew | (with_reducible refine Box.newAt (by simp; done) ?_; rfl) | with_reducible apply Box.alloc)) b)
    try clear k0a k0b k0c k0d
    obtain ⟨k0a, k0b, k0c, k0d⟩ := K0.out.cell
    clear b
    go_wp2_with fail
    go_ret2
    exact ⟨ret_ib (by simp [numR, hx]), by repeat (first | with_reducible exact Below.refl _ _ | with_reducible exact HB.out | with_reducible apply Below.drew | with_reducible apply bdN | with_reducible refine Below.alloc ?_ (by first | exact Nat.le_refl _ | (simp; done) | (simp; omega) | (have := HB.out.size; simp at *; omega)) _ | with_reducible refine Below.setCell ?_ (by first | exact Nat.le_refl _ | (simp; done) | (simp; omega) | (have := HB.out.size; simp at *; omega)) _)⟩

set_option maxRecDepth 100000 in
set_option maxHeartbeats 1000000 in
theorem spec_num (x : Cd) (w : World) :
    Calls Try.prog 36 #[x.val] w fun e w' => e = .returned (.tuple #[.int .i64 (numR x).1, .bool (numR x).2]) ∧ Below w.heap.size w w' := by
  go_enter Try.func36, Try.ntmps36
  go_wp2_with fail
  refine ((l2_card x _)).mono ?_
  rintro e w1 ⟨rfl, b⟩
  have HB := Lib.hid (chain0 (w := w) (by repeat (first | with_reducible exact Below.refl _ _ | with_reducible exact HB.out | with_reducible apply Below.drew | with_reducible apply bdN | with_reducible refine Below.alloc ?_ (by first | exact Nat.le_refl _ | (simp; done) | (simp; omega) | (have := HB.out.size; simp at *; omega)) _ | with_reducible refine Below.setCell ?_ (by first | exact Nat.le_refl _ | (simp; done) | (simp; omega) | (have := HB.out.size; simp at *; omega)) _)) b)
  have K0 : Hid (Box _ (w.heap.size) x) := Lib.hid (Box.below (by repeat (first | with_reducible exact K0.out | with_reducible apply Box.drewN | with_reducible apply Box.drew | (with_reducible refine Box.newAt (by simp; done) ?_; rfl) | with_reducible apply Box.alloc)) b)
  try clear k0a k0b k0c k0d
  obtain ⟨k0a, k0b, k0c, k0d⟩ := K0.out.cell
  clear b
  cases hx : x.ok
  · go_wp2_with fail
    go_ret2
    exact ⟨ret_ib (by simp [numR, hx]), by repeat (first | with_reducible exact Below.refl _ _ | with_reducible exact HB.out | with_reducible apply Below.drew | with_reducible apply bdN | with_reducible refine Below.alloc ?_ (by first | exact Nat.le_refl _ | (simp; done) | (simp; omega) | (have := HB.out.size; simp at *; omega)) _ | with_reducible refine Below.setCell ?_ (by first | exact Nat.le_refl _ | (simp; done) | (simp; omega) | (have := HB.out.size; simp at *; omega)) _)⟩
  · have HX := Lib.hid hx
    go_wp2_with fail
    refine ((l2_number x _ HX.out)).mono ?_
    rintro e w2 ⟨rfl, b⟩
    have HB := Lib.hid (chain0 (w := w) (by repeat (first | with_reducible exact Below.refl _ _ | with_reducible exact HB.out | with_reducible apply Below.drew | with_reducible apply bdN | with_reducible refine Below.alloc ?_ (by first | exact Nat.le_refl _ | (simp; done) | (simp; omega) | (have := HB.out.size; simp at *; omega)) _ | with_reducible refine Below.setCell ?_ (by first | exact Nat.le_refl _ | (simp; done) | (simp; omega) | (have := HB.out.size; simp at *; omega)) _)) b)
    have K0 : Hid (Box _ (w.heap.size) x) := Lib.hid (Box.below (by repeat (first | with_reducible exact K0.out | with_reducible apply Box.drewN | with_reducible apply Box.drew | (with_reducible refine Box.newAt (by simp; done) ?_; rfl) | with_reducible apply Box.alloc)) b)
    try clear k0a k0b k0c k0d
    obtain ⟨k0a, k0b, k0c, k0d⟩ := K0.out.cell
    clear b
    go_wp2_with fail
    go_ret2
    exact ⟨ret_ib (by simp [numR, hx]), by repeat (first | with_reducible exact Below.refl _ _ | with_reducible exact HB.out | with_reducible apply Below.drew | with_reducible apply bdN | with_reducible refine Below.alloc ?_ (by first | exact Nat.le_refl _ | (simp; done) | (simp; omega) | (have := HB.out.size; simp at *; omega)) _ | with_reducible refine Below.setCell ?_ (by first | exact Nat.le_refl _ | (simp; done) | (simp; omega) | (have := HB.out.size; simp at *; omega)) _)⟩

set_option maxRecDepth 100000 in
set_option maxHeartbeats 1000000 in
theorem l2_at (n : Int) (w : World) (h0 : 0 ≤ n) (h1 : n ≤ 80) :
    Calls Try.prog 100 #[.int .i64 n] w fun e w' => e = .returned (cdAt n).val ∧ Below w.heap.size w w' := by
  go_enter Try.func100, Try.ntmps100
  go_wp2
  exact bodyPost_ret (v := (cdAt n).val) (by simp [results, Try.results100, go_sem, cdAt, *]) rfl ⟨rfl, by repeat (first | with_reducible exact Below.refl _ _ | with_reducible exact HB.out | with_reducible apply Below.drew | with_reducible apply bdN | with_reducible refine Below.alloc ?_ (by first | exact Nat.le_refl _ | (simp; done) | (simp; omega) | (have := HB.out.size; simp at *; omega)) _ | with_reducible refine Below.setCell ?_ (by first | exact Nat.le_refl _ | (simp; done) | (simp; omega) | (have := HB.out.size; simp at *; omega)) _)⟩

set_option maxRecDepth 100000 in
set_option maxHeartbeats 1000000 in
theorem card_of (n : Int) (w : World) (h0 : 0 ≤ n) (h1 : n ≤ 80) :
    Calls Try.prog 98 #[.int .i64 n] w fun e w' => e = .returned (cdAt n).val ∧ Below w.heap.size w w' := by
  have a3 : n / 3 / 3 / 3 % 3 = n / 27 := by omega
  have a2 : n / 3 / 3 % 3 = n / 9 % 3 := by omega
  have A3 := Lib.hid a3
  have A2 := Lib.hid a2
  clear a3 a2
  go_enter Try.func98, Try.ntmps98
  go_wp2
  refine wp_loop_rounds 5 ?_
  repeat (rw [rounds_succ]; go_wp2)
  exact bodyPost_ret (v := (cdAt n).val) (by simp [results, Try.results98, go_sem, cdAt, A3.out, A2.out, *]) rfl ⟨rfl, by repeat (first | with_reducible exact Below.refl _ _ | with_reducible exact HB.out | with_reducible apply Below.drew | with_reducible apply bdN | with_reducible refine Below.alloc ?_ (by first | exact Nat.le_refl _ | (simp; done) | (simp; omega) | (have := HB.out.size; simp at *; omega)) _ | with_reducible refine Below.setCell ?_ (by first | exact Nat.le_refl _ | (simp; done) | (simp; omega) | (have := HB.out.size; simp at *; omega)) _)⟩
end Go.Proofs.Ytfnifkffhfhfmaa.cards
