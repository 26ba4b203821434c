/- Cards: lines, kinds of lines, in how many traits two cards differ: what the functions return. -/
import Derived.Test.YtfbcjcfhdclklaaC4
import Derived.Test.YtfbcjcfhdclklaaLn
namespace Go.Proofs.Ytfbcjcfhdclklaa.cards
open Go.RowKit
set_option linter.unusedVariables false

def lineR (x y z : Cd) : Bool × Bool := if x.ok && y.ok && z.ok then (line x y z, true) else (false, false)

set_option maxRecDepth 100000 in
set_option maxHeartbeats 4000000 in
theorem impl_line (x y z : Cd) (w : World) :
    Calls Try.prog 43 #[x.val, y.val, z.val] w fun e w' => e = .returned (.tuple #[.bool (lineR x y z).1, .bool (lineR x y z).2]) ∧ Below w.heap.size w w' := by
  go_enter Try.func43, Try.ntmps43
  go_wp2_with fail
  refine ((are_cards [x, y, z] _ 3 3 _ rfl (by omega) (Rd.newAt (by simp) rfl))).mono ?_
  rintro e w1 ⟨rfl, b⟩
  have Sw1 := Lib.hid b.size
  have HB := Lib.hid (chain0 (w := w) (by repeat (first | with_reducible exact Below.refl _ _ | with_reducible exact HB.out | with_reducible apply Below.drew | with_reducible apply bdN | with_reducible refine Below.alloc ?_ (by first | exact Nat.le_refl _ | with_reducible exact HB.out.size | omega | (simp; done) | (simp; omega) | (have := HB.out.size; simp at *; omega)) _ | with_reducible refine Below.setCell ?_ (by first | exact Nat.le_refl _ | with_reducible exact HB.out.size | omega | (simp; done) | (simp; omega) | (have := HB.out.size; simp at *; omega)) _)) b)
  have K0 : Hid (Box _ (w.heap.size) (x)) := Lib.hid (Box.below (by repeat (first | with_reducible exact K0.out | with_reducible apply Box.drewN | with_reducible apply Box.drew | (with_reducible refine Box.newAt ?_ ?_ <;> first | (simp; done) | rfl) | with_reducible apply Box.alloc)) b)
  have K1 : Hid (Box _ (w.heap.size + 1) (y)) := Lib.hid (Box.below (by repeat (first | with_reducible exact K1.out | with_reducible apply Box.drewN | with_reducible apply Box.drew | (with_reducible refine Box.newAt ?_ ?_ <;> first | (simp; done) | rfl) | with_reducible apply Box.alloc)) b)
  have K2 : Hid (Box _ (w.heap.size + 1 + 1) (z)) := Lib.hid (Box.below (by repeat (first | with_reducible exact K2.out | with_reducible apply Box.drewN | with_reducible apply Box.drew | (with_reducible refine Box.newAt ?_ ?_ <;> first | (simp; done) | rfl) | with_reducible apply Box.alloc)) b)
  try clear k0a k0b k0c k0d k0z
  have k0z := K0.out.lt
  obtain ⟨k0a, k0b, k0c, k0d⟩ := K0.out.cell
  try clear k1a k1b k1c k1d k1z
  have k1z := K1.out.lt
  obtain ⟨k1a, k1b, k1c, k1d⟩ := K1.out.cell
  try clear k2a k2b k2c k2d k2z
  have k2z := K2.out.lt
  obtain ⟨k2a, k2b, k2c, k2d⟩ := K2.out.cell
  clear b
  cases hok : x.ok && y.ok && z.ok
  · have ha : ([x, y, z] : List Cd).all Cd.ok = false := by rw [← hok]; simp [Bool.and_assoc]
    have HO := Lib.hid hok
    clear hok
    go_wp2_with fail
    go_ret2
    exact ⟨ret_bb (by simp only [lineR, HO.out]; rfl), by repeat (first | with_reducible exact Below.refl _ _ | with_reducible exact HB.out | with_reducible apply Below.drew | with_reducible apply bdN | with_reducible refine Below.alloc ?_ (by first | exact Nat.le_refl _ | with_reducible exact HB.out.size | omega | (simp; done) | (simp; omega) | (have := HB.out.size; simp at *; omega)) _ | with_reducible refine Below.setCell ?_ (by first | exact Nat.le_refl _ | with_reducible exact HB.out.size | omega | (simp; done) | (simp; omega) | (have := HB.out.size; simp at *; omega)) _)⟩
  · have ha : ([x, y, z] : List Cd).all Cd.ok = true := by rw [← hok]; simp [Bool.and_assoc]
    obtain ⟨⟨hx, hy⟩, hz⟩ : (x.ok = true ∧ y.ok = true) ∧ z.ok = true := by simpa using hok
    have HO := Lib.hid hok
    have HX := Lib.hid hx
    have HY := Lib.hid hy
    have HZ := Lib.hid hz
    clear hok hx hy hz
    go_wp2_with fail
    refine ((are_line x y z _ HX.out HY.out HZ.out)).mono ?_
    rintro e w4 ⟨rfl, b⟩
    have Sw4 := Lib.hid b.size
    have HB := Lib.hid (chain0 (w := w) (by repeat (first | with_reducible exact Below.refl _ _ | with_reducible exact HB.out | with_reducible apply Below.drew | with_reducible apply bdN | with_reducible refine Below.alloc ?_ (by first | exact Nat.le_refl _ | with_reducible exact HB.out.size | omega | (simp; done) | (simp; omega) | (have := HB.out.size; simp at *; omega)) _ | with_reducible refine Below.setCell ?_ (by first | exact Nat.le_refl _ | with_reducible exact HB.out.size | omega | (simp; done) | (simp; omega) | (have := HB.out.size; simp at *; omega)) _)) b)
    have K0 : Hid (Box _ (w.heap.size) (x)) := Lib.hid (Box.below (by repeat (first | with_reducible exact K0.out | with_reducible apply Box.drewN | with_reducible apply Box.drew | (with_reducible refine Box.newAt ?_ ?_ <;> first | (simp; done) | rfl) | with_reducible apply Box.alloc)) b)
    have K1 : Hid (Box _ (w.heap.size + 1) (y)) := Lib.hid (Box.below (by repeat (first | with_reducible exact K1.out | with_reducible apply Box.drewN | with_reducible apply Box.drew | (with_reducible refine Box.newAt ?_ ?_ <;> first | (simp; done) | rfl) | with_reducible apply Box.alloc)) b)
    have K2 : Hid (Box _ (w.heap.size + 1 + 1) (z)) := Lib.hid (Box.below (by repeat (first | with_reducible exact K2.out | with_reducible apply Box.drewN | with_reducible apply Box.drew | (with_reducible refine Box.newAt ?_ ?_ <;> first | (simp; done) | rfl) | with_reducible apply Box.alloc)) b)
    try clear k0a k0b k0c k0d k0z
    have k0z := K0.out.lt
    obtain ⟨k0a, k0b, k0c, k0d⟩ := K0.out.cell
    try clear k1a k1b k1c k1d k1z
    have k1z := K1.out.lt
    obtain ⟨k1a, k1b, k1c, k1d⟩ := K1.out.cell
    try clear k2a k2b k2c k2d k2z
    have k2z := K2.out.lt
    obtain ⟨k2a, k2b, k2c, k2d⟩ := K2.out.cell
    clear b
    go_wp2_with fail
    go_ret2
    exact ⟨ret_bb (by simp only [lineR, HO.out]; rfl), by repeat (first | with_reducible exact Below.refl _ _ | with_reducible exact HB.out | with_reducible apply Below.drew | with_reducible apply bdN | with_reducible refine Below.alloc ?_ (by first | exact Nat.le_refl _ | with_reducible exact HB.out.size | omega | (simp; done) | (simp; omega) | (have := HB.out.size; simp at *; omega)) _ | with_reducible refine Below.setCell ?_ (by first | exact Nat.le_refl _ | with_reducible exact HB.out.size | omega | (simp; done) | (simp; omega) | (have := HB.out.size; simp at *; omega)) _)⟩

def neQ (a b _c : Int) : Bool := decide (a ≠ b)
theorem cnt_ne (x y : Cd) : cntK neQ x y x 4 = dif x y := by simp [cntK, tr, neQ, dif]
theorem ne_yes {a b c : Int} (h : (a != b) = true) : neQ a b c = true := by simpa [neQ] using h
theorem ne_no {a b c : Int} (h : (a != b) = false) : neQ a b c = false := by simpa [neQ] using h

end Go.Proofs.Ytfbcjcfhdclklaa.cards
