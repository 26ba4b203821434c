/- Three cards a line: the model's test. -/
import Derived.Test.YtkmkochganknmaaNm
namespace Go.Proofs.Ytkmkochganknmaa.cards
open Go.RowKit
set_option linter.unusedVariables false

set_option maxRecDepth 100000 in
set_option maxHeartbeats 4000000 in
theorem l2_line (x y z : Cd) (w : World) (hx : x.ok = true) (hy : y.ok = true) (hz : z.ok = true) :
    Calls Try.prog 31 #[x.val, y.val, z.val] w fun e w' => e = .returned (.bool (line x y z)) ∧ Below w.heap.size w w' := by
  have HX := Lib.hid hx
  have HY := Lib.hid hy
  have he := eq_run x y hx hy
  have he2 := eq_run (third x y) z (third_ok x y) hz
  clear hx hy hz
  go_enter Try.func31, Try.ntmps31
  go_wp2_with fail
  obtain ⟨w1, ew, b⟩ : ∃ wOPN : World, wOPN = (((w.alloc x.obj).alloc y.obj).alloc z.obj) ∧ Below ((((w.alloc x.obj).alloc y.obj).alloc z.obj)).heap.size ((((w.alloc x.obj).alloc y.obj).alloc z.obj)) wOPN := ⟨_, rfl, Below.refl _ _⟩
  rw [← ew]
  clear ew
  have Sw1 := Lib.hid b.size
  have HB := Lib.hid (chain0 (w := w) (by repeat (first | with_reducible exact Below.refl _ _ | with_reducible exact HB.out | with_reducible apply Below.drew | with_reducible apply bdN | with_reducible refine Below.alloc ?_ (by first | exact Nat.le_refl _ | with_reducible exact HB.out.size | omega | (simp; done) | (simp; omega) | (have := HB.out.size; simp at *; omega)) _ | with_reducible refine Below.setCell ?_ (by first | exact Nat.le_refl _ | with_reducible exact HB.out.size | omega | (simp; done) | (simp; omega) | (have := HB.out.size; simp at *; omega)) _)) b)
  have K0 : Hid (Box _ (w.heap.size) (x)) := Lib.hid (Box.below (by repeat (first | with_reducible exact K0.out | with_reducible apply Box.drewN | with_reducible apply Box.drew | (with_reducible refine Box.newAt ?_ ?_ <;> first | (simp; done) | rfl) | with_reducible apply Box.alloc)) b)
  have K1 : Hid (Box _ (w.heap.size + 1) (y)) := Lib.hid (Box.below (by repeat (first | with_reducible exact K1.out | with_reducible apply Box.drewN | with_reducible apply Box.drew | (with_reducible refine Box.newAt ?_ ?_ <;> first | (simp; done) | rfl) | with_reducible apply Box.alloc)) b)
  have K2 : Hid (Box _ (w.heap.size + 1 + 1) (z)) := Lib.hid (Box.below (by repeat (first | with_reducible exact K2.out | with_reducible apply Box.drewN | with_reducible apply Box.drew | (with_reducible refine Box.newAt ?_ ?_ <;> first | (simp; done) | rfl) | with_reducible apply Box.alloc)) b)
  try clear k0a k0b k0c k0d k0z
  have k0z := K0.out.lt
  obtain ⟨k0a, k0b, k0c, k0d⟩ := K0.out.cell
  try clear k1a k1b k1c k1d k1z
  have k1z := K1.out.lt
  obtain ⟨k1a, k1b, k1c, k1d⟩ := K1.out.cell
  try clear k2a k2b k2c k2d k2z
  have k2z := K2.out.lt
  obtain ⟨k2a, k2b, k2c, k2d⟩ := K2.out.cell
  clear b
  cases hs : same x y
  · have qk0a := fun d os => cell_regrown k0a d os
    have qk0b := fun d os => cell_regrown k0b d os
    have qk0c := fun d os => cell_regrown k0c d os
    have qk0d := fun d os => cell_regrown k0d d os
    have qk1a := fun d os => cell_regrown k1a d os
    have qk1b := fun d os => cell_regrown k1b d os
    have qk1c := fun d os => cell_regrown k1c d os
    have qk1d := fun d os => cell_regrown k1d d os
    have qk2a := fun d os => cell_regrown k2a d os
    have qk2b := fun d os => cell_regrown k2b d os
    have qk2c := fun d os => cell_regrown k2c d os
    have qk2d := fun d os => cell_regrown k2d d os
    refine wp_region_quiet_below (by kernel_rfl) (by kernel_rfl) ?_
    repeat (first | go_big_quiet_step ((go_at_call 28; exact Calls.regrown_of (l2_third x y _ HX.out HY.out))) | quiet_step ((go_at_call 28; exact Calls.regrown_of (l2_third x y _ HX.out HY.out))))
    refine wpQuiet_nil ?_
    intro w2 hw2
    have b : Below w1.heap.size w1 w2 := by obtain ⟨r, hr⟩ := hw2; rw [hr]; exact below_regrown _ _ _
    clear hw2 qk0a qk0b qk0c qk0d qk1a qk1b qk1c qk1d qk2a qk2b qk2c qk2d
    have Sw2 := Lib.hid b.size
    have HB := Lib.hid (chain0 (w := w) (by repeat (first | with_reducible exact Below.refl _ _ | with_reducible exact HB.out | with_reducible apply Below.drew | with_reducible apply bdN | with_reducible refine Below.alloc ?_ (by first | exact Nat.le_refl _ | with_reducible exact HB.out.size | omega | (simp; done) | (simp; omega) | (have := HB.out.size; simp at *; omega)) _ | with_reducible refine Below.setCell ?_ (by first | exact Nat.le_refl _ | with_reducible exact HB.out.size | omega | (simp; done) | (simp; omega) | (have := HB.out.size; simp at *; omega)) _)) b)
    have K0 : Hid (Box _ (w.heap.size) (x)) := Lib.hid (Box.below (by repeat (first | with_reducible exact K0.out | with_reducible apply Box.drewN | with_reducible apply Box.drew | (with_reducible refine Box.newAt ?_ ?_ <;> first | (simp; done) | rfl) | with_reducible apply Box.alloc)) b)
    have K1 : Hid (Box _ (w.heap.size + 1) (y)) := Lib.hid (Box.below (by repeat (first | with_reducible exact K1.out | with_reducible apply Box.drewN | with_reducible apply Box.drew | (with_reducible refine Box.newAt ?_ ?_ <;> first | (simp; done) | rfl) | with_reducible apply Box.alloc)) b)
    have K2 : Hid (Box _ (w.heap.size + 1 + 1) (z)) := Lib.hid (Box.below (by repeat (first | with_reducible exact K2.out | with_reducible apply Box.drewN | with_reducible apply Box.drew | (with_reducible refine Box.newAt ?_ ?_ <;> first | (simp; done) | rfl) | with_reducible apply Box.alloc)) b)
    try clear k0a k0b k0c k0d k0z
    have k0z := K0.out.lt
    obtain ⟨k0a, k0b, k0c, k0d⟩ := K0.out.cell
    try clear k1a k1b k1c k1d k1z
    have k1z := K1.out.lt
    obtain ⟨k1a, k1b, k1c, k1d⟩ := K1.out.cell
    try clear k2a k2b k2c k2d k2z
    have k2z := K2.out.lt
    obtain ⟨k2a, k2b, k2c, k2d⟩ := K2.out.cell
    clear b
    go_wp2_with fail
    go_ret
    exact ⟨ret_bool (by simp [line, hs]), by repeat (first | with_reducible exact Below.refl _ _ | with_reducible exact HB.out | with_reducible apply Below.drew | with_reducible apply bdN | with_reducible refine Below.alloc ?_ (by first | exact Nat.le_refl _ | with_reducible exact HB.out.size | omega | (simp; done) | (simp; omega) | (have := HB.out.size; simp at *; omega)) _ | with_reducible refine Below.setCell ?_ (by first | exact Nat.le_refl _ | with_reducible exact HB.out.size | omega | (simp; done) | (simp; omega) | (have := HB.out.size; simp at *; omega)) _)⟩
  · have qk0a := fun d os => cell_regrown k0a d os
    have qk0b := fun d os => cell_regrown k0b d os
    have qk0c := fun d os => cell_regrown k0c d os
    have qk0d := fun d os => cell_regrown k0d d os
    have qk1a := fun d os => cell_regrown k1a d os
    have qk1b := fun d os => cell_regrown k1b d os
    have qk1c := fun d os => cell_regrown k1c d os
    have qk1d := fun d os => cell_regrown k1d d os
    have qk2a := fun d os => cell_regrown k2a d os
    have qk2b := fun d os => cell_regrown k2b d os
    have qk2c := fun d os => cell_regrown k2c d os
    have qk2d := fun d os => cell_regrown k2d d os
    refine wp_region_quiet_below (by kernel_rfl) (by kernel_rfl) ?_
    repeat (first | go_big_quiet_step ((go_at_call 28; exact Calls.regrown_of (l2_third x y _ HX.out HY.out))) | quiet_step ((go_at_call 28; exact Calls.regrown_of (l2_third x y _ HX.out HY.out))))
    refine wpQuiet_nil ?_
    intro w2 hw2
    have b : Below w1.heap.size w1 w2 := by obtain ⟨r, hr⟩ := hw2; rw [hr]; exact below_regrown _ _ _
    clear hw2 qk0a qk0b qk0c qk0d qk1a qk1b qk1c qk1d qk2a qk2b qk2c qk2d
    have Sw2 := Lib.hid b.size
    have HB := Lib.hid (chain0 (w := w) (by repeat (first | with_reducible exact Below.refl _ _ | with_reducible exact HB.out | with_reducible apply Below.drew | with_reducible apply bdN | with_reducible refine Below.alloc ?_ (by first | exact Nat.le_refl _ | with_reducible exact HB.out.size | omega | (simp; done) | (simp; omega) | (have := HB.out.size; simp at *; omega)) _ | with_reducible refine Below.setCell ?_ (by first | exact Nat.le_refl _ | with_reducible exact HB.out.size | omega | (simp; done) | (simp; omega) | (have := HB.out.size; simp at *; omega)) _)) b)
    have K0 : Hid (Box _ (w.heap.size) (x)) := Lib.hid (Box.below (by repeat (first | with_reducible exact K0.out | with_reducible apply Box.drewN | with_reducible apply Box.drew | (with_reducible refine Box.newAt ?_ ?_ <;> first | (simp; done) | rfl) | with_reducible apply Box.alloc)) b)
    have K1 : Hid (Box _ (w.heap.size + 1) (y)) := Lib.hid (Box.below (by repeat (first | with_reducible exact K1.out | with_reducible apply Box.drewN | with_reducible apply Box.drew | (with_reducible refine Box.newAt ?_ ?_ <;> first | (simp; done) | rfl) | with_reducible apply Box.alloc)) b)
    have K2 : Hid (Box _ (w.heap.size + 1 + 1) (z)) := Lib.hid (Box.below (by repeat (first | with_reducible exact K2.out | with_reducible apply Box.drewN | with_reducible apply Box.drew | (with_reducible refine Box.newAt ?_ ?_ <;> first | (simp; done) | rfl) | with_reducible apply Box.alloc)) b)
    try clear k0a k0b k0c k0d k0z
    have k0z := K0.out.lt
    obtain ⟨k0a, k0b, k0c, k0d⟩ := K0.out.cell
    try clear k1a k1b k1c k1d k1z
    have k1z := K1.out.lt
    obtain ⟨k1a, k1b, k1c, k1d⟩ := K1.out.cell
    try clear k2a k2b k2c k2d k2z
    have k2z := K2.out.lt
    obtain ⟨k2a, k2b, k2c, k2d⟩ := K2.out.cell
    clear b
    go_wp2_with fail
    go_ret
    exact ⟨ret_bool (by simp [line, hs]), by repeat (first | with_reducible exact Below.refl _ _ | with_reducible exact HB.out | with_reducible apply Below.drew | with_reducible apply bdN | with_reducible refine Below.alloc ?_ (by first | exact Nat.le_refl _ | with_reducible exact HB.out.size | omega | (simp; done) | (simp; omega) | (have := HB.out.size; simp at *; omega)) _ | with_reducible refine Below.setCell ?_ (by first | exact Nat.le_refl _ | with_reducible exact HB.out.size | omega | (simp; done) | (simp; omega) | (have := HB.out.size; simp at *; omega)) _)⟩

end Go.Proofs.Ytkmkochganknmaa.cards
