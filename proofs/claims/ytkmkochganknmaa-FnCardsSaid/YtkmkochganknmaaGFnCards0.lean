/- Merged texts: Ks. -/
import Derived.Test.YtkmkochganknmaaKf
import Derived.Test.YtkmkochganknmaaKg
import Derived.Test.YtkmkochganknmaaKh
import Derived.Test.YtkmkochganknmaaTx
import Derived.Test.YtkmkochganknmaaRx
import Derived.BigQuiet
import Derived.IntWalk
import Derived.Deep.DeepCutAuto
/- The law on cards: its walk. -/
namespace Go.Proofs.Ytkmkochganknmaa.draw
open Go.RowKit
open cards
set_option linter.unusedVariables false

theorem r_big (p : Option Addr) (n c : Nat) (w : World) (b : Bool) (h : decide (65536 < (n : Int)) = b) :
    Calls Try.prog 4 #[.slice p n c] w fun e w' => e = .returned (.bool b) ∧ w = w' := by
  go_enter Try.func4, Try.ntmps4
  go_wp2_with fail
  go_ret
  exact ⟨rfl, rfl⟩
theorem t_ok (x y : Cd) : (thirdR x y).1.ok = true := by
  unfold thirdR; split
  · exact third_ok x y
  · rfl
theorem a_ok (n : Int) : (atR n).1.ok = true := by
  unfold atR; split
  · rename_i h; exact cdAt_okC h.1 h.2
  · rfl
theorem tx_four {x : Cd} (h : (txtR x).2 = true) : (txtR x).1.size = 4 := by
  unfold txtR at h ⊢
  split
  · rfl
  · rename_i h2; rw [if_neg h2] at h; cases h
theorem l_ok {x y z : Cd} (h : (lineR x y z).2 = true) : x.ok = true ∧ y.ok = true ∧ z.ok = true := by
  unfold lineR at h
  split at h
  · rename_i h2
    simp only [Bool.and_eq_true] at h2
    exact ⟨h2.1.1, h2.1.2, h2.2⟩
  · cases h
def zk (x y z : Cd) : Nat → Bool
  | 0 => true
  | 1 => true && decide ((x.a + y.a + z.a) % 3 = 0)
  | 2 => decide ((x.a + y.a + z.a) % 3 = 0) && decide ((x.b + y.b + z.b) % 3 = 0)
  | 3 => decide ((x.a + y.a + z.a) % 3 = 0) && decide ((x.b + y.b + z.b) % 3 = 0) && decide ((x.c + y.c + z.c) % 3 = 0)
  | _ => zeroB x y z
theorem beq_dec (s : Int) : decide (s = 0) = (s == 0) := by
  rw [Bool.eq_iff_iff]; simp
set_option maxRecDepth 100000 in
set_option maxHeartbeats 16000000 in
theorem law_cards (p : Option Addr) (n c : Nat) (l : List Int) (w : World) (hs : n ≤ 65536) (hr : Rd w p (bys l)) (hl : l.length = n) (hy : isByte l) :
    Calls Try.prog 3 #[.slice p n c] w fun e w' => e = .returned (.bool true) ∧ Below w.heap.size w w' := by
  have HD1 := Lib.hid (fun w h => draw_third p n c l w (by omega) h hl hy)
  have HD2 := Lib.hid (fun w h => draw_line p n c l w (by omega) h hl hy)
  have HD3 := Lib.hid (fun w h => draw_at p n c l w (by omega) h hl hy)
  have HV := Lib.hid (r_big p n c w false (decide_eq_false (by omega)))
  have HR := Lib.hid hr
  have HB := Lib.hid (Below.refl w.heap.size w)
  clear hr hl hy
  go_enter Try.func3, Try.ntmps3
  go_wp2_with fail
  refine (HV.out).mono ?_
  rintro e w0 ⟨rfl, rfl⟩
  go_wp2_with fail
  refine ((HD1.out _ HR.out)).mono ?_
  rintro e ua ⟨a, d, rfl, hx, hy, b⟩
  have Sua := Lib.hid b.size
  have HB := Lib.hid (chain0 (w := w) (by repeat (first | with_reducible exact Below.refl _ _ | with_reducible exact HB.out | with_reducible apply Below.drew | with_reducible apply bdN | with_reducible refine Below.alloc ?_ (by first | exact Nat.le_refl _ | with_reducible exact HB.out.size | omega | (simp; done) | (simp; omega) | (have := HB.out.size; simp at *; omega)) _ | with_reducible refine Below.setCell ?_ (by first | exact Nat.le_refl _ | with_reducible exact HB.out.size | omega | (simp; done) | (simp; omega) | (have := HB.out.size; simp at *; omega)) _)) b)
  have HR := Lib.hid (Rd.below (by repeat (first | with_reducible exact HR.out | with_reducible apply Rd.drewN | with_reducible apply Rd.drew | with_reducible apply Rd.alloc)) b)
  clear b
  clear hx hy
  go_upto_region 4 with fail
  obtain ⟨w1, ew, b⟩ : ∃ wOPN : World, wOPN = ((ua.alloc a.obj).alloc d.obj) ∧ Below (((ua.alloc a.obj).alloc d.obj)).heap.size (((ua.alloc a.obj).alloc d.obj)) wOPN := ⟨_, rfl, Below.refl _ _⟩
  rw [← ew]
  clear ew
  have Sw1 := Lib.hid b.size
  have HB := Lib.hid (chain0 (w := w) (by repeat (first | with_reducible exact Below.refl _ _ | with_reducible exact HB.out | with_reducible apply Below.drew | with_reducible apply bdN | with_reducible refine Below.alloc ?_ (by first | exact Nat.le_refl _ | with_reducible exact HB.out.size | omega | (simp; done) | (simp; omega) | (have := HB.out.size; simp at *; omega)) _ | with_reducible refine Below.setCell ?_ (by first | exact Nat.le_refl _ | with_reducible exact HB.out.size | omega | (simp; done) | (simp; omega) | (have := HB.out.size; simp at *; omega)) _)) b)
  have HR := Lib.hid (Rd.below (by repeat (first | with_reducible exact HR.out | with_reducible apply Rd.drewN | with_reducible apply Rd.drew | with_reducible apply Rd.alloc)) b)
  have K3 : Hid (Box _ (ua.heap.size) (a)) := Lib.hid (Box.below (by repeat (first | with_reducible exact K3.out | with_reducible apply Box.drewN | with_reducible apply Box.drew | (with_reducible refine Box.newAt ?_ ?_ <;> first | (simp; done) | rfl) | with_reducible apply Box.alloc)) b)
  have K4 : Hid (Box _ (ua.heap.size + 1) (d)) := Lib.hid (Box.below (by repeat (first | with_reducible exact K4.out | with_reducible apply Box.drewN | with_reducible apply Box.drew | (with_reducible refine Box.newAt ?_ ?_ <;> first | (simp; done) | rfl) | with_reducible apply Box.alloc)) b)
  try clear k3a k3b k3c k3d k3z
  have k3z := K3.out.lt
  obtain ⟨k3a, k3b, k3c, k3d⟩ := K3.out.cell
  try clear k4a k4b k4c k4d k4z
  have k4z := K4.out.lt
  obtain ⟨k4a, k4b, k4c, k4d⟩ := K4.out.cell
  clear b
  have HI1 := Lib.hid (fun w => impl_third a d w)
  have HS1 := Lib.hid (fun w => spec_third a d w)
  have HTo := Lib.hid (t_ok a d)
  have HTe := Lib.hid (fun h => f_end (x := a) (y := d) h)
  have HTf := Lib.hid (f_third a d)
  obtain ⟨t, ht⟩ : ∃ t, (thirdR a d).1 = t := ⟨_, rfl⟩
  obtain ⟨ok, hok⟩ : ∃ ok, (thirdR a d).2 = ok := ⟨_, rfl⟩
  rw [ht] at HI1 HS1 HTo HTe
  rw [hok] at HI1 HS1 HTe HTf
  clear ht hok
  go_wp2_with fail
  refine ((HI1.out _)).mono ?_
  rintro e w2 ⟨rfl, b⟩
  have Sw2 := Lib.hid b.size
  have HB := Lib.hid (chain0 (w := w) (by repeat (first | with_reducible exact Below.refl _ _ | with_reducible exact HB.out | with_reducible apply Below.drew | with_reducible apply bdN | with_reducible refine Below.alloc ?_ (by first | exact Nat.le_refl _ | with_reducible exact HB.out.size | omega | (simp; done) | (simp; omega) | (have := HB.out.size; simp at *; omega)) _ | with_reducible refine Below.setCell ?_ (by first | exact Nat.le_refl _ | with_reducible exact HB.out.size | omega | (simp; done) | (simp; omega) | (have := HB.out.size; simp at *; omega)) _)) b)
  have HR := Lib.hid (Rd.below (by repeat (first | with_reducible exact HR.out | with_reducible apply Rd.drewN | with_reducible apply Rd.drew | with_reducible apply Rd.alloc)) b)
  have K3 : Hid (Box _ (ua.heap.size) (a)) := Lib.hid (Box.below (by repeat (first | with_reducible exact K3.out | with_reducible apply Box.drewN | with_reducible apply Box.drew | (with_reducible refine Box.newAt ?_ ?_ <;> first | (simp; done) | rfl) | with_reducible apply Box.alloc)) b)
  have K4 : Hid (Box _ (ua.heap.size + 1) (d)) := Lib.hid (Box.below (by repeat (first | with_reducible exact K4.out | with_reducible apply Box.drewN | with_reducible apply Box.drew | (with_reducible refine Box.newAt ?_ ?_ <;> first | (simp; done) | rfl) | with_reducible apply Box.alloc)) b)
  try clear k3a k3b k3c k3d k3z
  have k3z := K3.out.lt
  obtain ⟨k3a, k3b, k3c, k3d⟩ := K3.out.cell
  try clear k4a k4b k4c k4d k4z
  have k4z := K4.out.lt
  obtain ⟨k4a, k4b, k4c, k4d⟩ := K4.out.cell
  clear b
  go_upto_region 5 with fail
  obtain ⟨w3, ew, b⟩ : ∃ wOPN : World, wOPN = (w2.alloc t.obj) ∧ Below ((w2.alloc t.obj)).heap.size ((w2.alloc t.obj)) wOPN := ⟨_, rfl, Below.refl _ _⟩
  rw [← ew]
  clear ew
  have Sw3 := Lib.hid b.size
  have HB := Lib.hid (chain0 (w := w) (by repeat (first | with_reducible exact Below.refl _ _ | with_reducible exact HB.out | with_reducible apply Below.drew | with_reducible apply bdN | with_reducible refine Below.alloc ?_ (by first | exact Nat.le_refl _ | with_reducible exact HB.out.size | omega | (simp; done) | (simp; omega) | (have := HB.out.size; simp at *; omega)) _ | with_reducible refine Below.setCell ?_ (by first | exact Nat.le_refl _ | with_reducible exact HB.out.size | omega | (simp; done) | (simp; omega) | (have := HB.out.size; simp at *; omega)) _)) b)
  have HR := Lib.hid (Rd.below (by repeat (first | with_reducible exact HR.out | with_reducible apply Rd.drewN | with_reducible apply Rd.drew | with_reducible apply Rd.alloc)) b)
  have K3 : Hid (Box _ (ua.heap.size) (a)) := Lib.hid (Box.below (by repeat (first | with_reducible exact K3.out | with_reducible apply Box.drewN | with_reducible apply Box.drew | (with_reducible refine Box.newAt ?_ ?_ <;> first | (simp; done) | rfl) | with_reducible apply Box.alloc)) b)
  have K4 : Hid (Box _ (ua.heap.size + 1) (d)) := Lib.hid (Box.below (by repeat (first | with_reducible exact K4.out | with_reducible apply Box.drewN | with_reducible apply Box.drew | (with_reducible refine Box.newAt ?_ ?_ <;> first | (simp; done) | rfl) | with_reducible apply Box.alloc)) b)
  have K5 : Hid (Box _ (w2.heap.size) (t)) := Lib.hid (Box.below (by repeat (first | with_reducible exact K5.out | with_reducible apply Box.drewN | with_reducible apply Box.drew | (with_reducible refine Box.newAt ?_ ?_ <;> first | (simp; done) | rfl) | with_reducible apply Box.alloc)) b)
  try clear k3a k3b k3c k3d k3z
  have k3z := K3.out.lt
  obtain ⟨k3a, k3b, k3c, k3d⟩ := K3.out.cell
  try clear k4a k4b k4c k4d k4z
  have k4z := K4.out.lt
  obtain ⟨k4a, k4b, k4c, k4d⟩ := K4.out.cell
  try clear k5a k5b k5c k5d k5z
  have k5z := K5.out.lt
  obtain ⟨k5a, k5b, k5c, k5d⟩ := K5.out.cell
  clear b
  go_wp2_with fail
  refine ((HS1.out _)).mono ?_
  rintro e w4 ⟨rfl, b⟩
  have Sw4 := Lib.hid b.size
  have HB := Lib.hid (chain0 (w := w) (by repeat (first | with_reducible exact Below.refl _ _ | with_reducible exact HB.out | with_reducible apply Below.drew | with_reducible apply bdN | with_reducible refine Below.alloc ?_ (by first | exact Nat.le_refl _ | with_reducible exact HB.out.size | omega | (simp; done) | (simp; omega) | (have := HB.out.size; simp at *; omega)) _ | with_reducible refine Below.setCell ?_ (by first | exact Nat.le_refl _ | with_reducible exact HB.out.size | omega | (simp; done) | (simp; omega) | (have := HB.out.size; simp at *; omega)) _)) b)
  have HR := Lib.hid (Rd.below (by repeat (first | with_reducible exact HR.out | with_reducible apply Rd.drewN | with_reducible apply Rd.drew | with_reducible apply Rd.alloc)) b)
  have K3 : Hid (Box _ (ua.heap.size) (a)) := Lib.hid (Box.below (by repeat (first | with_reducible exact K3.out | with_reducible apply Box.drewN | with_reducible apply Box.drew | (with_reducible refine Box.newAt ?_ ?_ <;> first | (simp; done) | rfl) | with_reducible apply Box.alloc)) b)
  have K4 : Hid (Box _ (ua.heap.size + 1) (d)) := Lib.hid (Box.below (by repeat (first | with_reducible exact K4.out | with_reducible apply Box.drewN | with_reducible apply Box.drew | (with_reducible refine Box.newAt ?_ ?_ <;> first | (simp; done) | rfl) | with_reducible apply Box.alloc)) b)
  have K5 : Hid (Box _ (w2.heap.size) (t)) := Lib.hid (Box.below (by repeat (first | with_reducible exact K5.out | with_reducible apply Box.drewN | with_reducible apply Box.drew | (with_reducible refine Box.newAt ?_ ?_ <;> first | (simp; done) | rfl) | with_reducible apply Box.alloc)) b)
  try clear k3a k3b k3c k3d k3z
  have k3z := K3.out.lt
  obtain ⟨k3a, k3b, k3c, k3d⟩ := K3.out.cell
  try clear k4a k4b k4c k4d k4z
  have k4z := K4.out.lt
  obtain ⟨k4a, k4b, k4c, k4d⟩ := K4.out.cell
  try clear k5a k5b k5c k5d k5z
  have k5z := K5.out.lt
  obtain ⟨k5a, k5b, k5c, k5d⟩ := K5.out.cell
  clear b
  have Et := eq_run t t HTo.out HTo.out
  have Es := same_self t
  go_upto_region 6 with fail
  obtain ⟨w5, ew, b⟩ : ∃ wOPN : World, wOPN = (w4.alloc t.obj) ∧ Below ((w4.alloc t.obj)).heap.size ((w4.alloc t.obj)) wOPN := ⟨_, rfl, Below.refl _ _⟩
  rw [← ew]
  clear ew
  have Sw5 := Lib.hid b.size
  have HB := Lib.hid (chain0 (w := w) (by repeat (first | with_reducible exact Below.refl _ _ | with_reducible exact HB.out | with_reducible apply Below.drew | with_reducible apply bdN | with_reducible refine Below.alloc ?_ (by first | exact Nat.le_refl _ | with_reducible exact HB.out.size | omega | (simp; done) | (simp; omega) | (have := HB.out.size; simp at *; omega)) _ | with_reducible refine Below.setCell ?_ (by first | exact Nat.le_refl _ | with_reducible exact HB.out.size | omega | (simp; done) | (simp; omega) | (have := HB.out.size; simp at *; omega)) _)) b)
  have HR := Lib.hid (Rd.below (by repeat (first | with_reducible exact HR.out | with_reducible apply Rd.drewN | with_reducible apply Rd.drew | with_reducible apply Rd.alloc)) b)
  have K3 : Hid (Box _ (ua.heap.size) (a)) := Lib.hid (Box.below (by repeat (first | with_reducible exact K3.out | with_reducible apply Box.drewN | with_reducible apply Box.drew | (with_reducible refine Box.newAt ?_ ?_ <;> first | (simp; done) | rfl) | with_reducible apply Box.alloc)) b)
  have K4 : Hid (Box _ (ua.heap.size + 1) (d)) := Lib.hid (Box.below (by repeat (first | with_reducible exact K4.out | with_reducible apply Box.drewN | with_reducible apply Box.drew | (with_reducible refine Box.newAt ?_ ?_ <;> first | (simp; done) | rfl) | with_reducible apply Box.alloc)) b)
  have K5 : Hid (Box _ (w2.heap.size) (t)) := Lib.hid (Box.below (by repeat (first | with_reducible exact K5.out | with_reducible apply Box.drewN | with_reducible apply Box.drew | (with_reducible refine Box.newAt ?_ ?_ <;> first | (simp; done) | rfl) | with_reducible apply Box.alloc)) b)
  have K7 : Hid (Box _ (w4.heap.size) (t)) := Lib.hid (Box.below (by repeat (first | with_reducible exact K7.out | with_reducible apply Box.drewN | with_reducible apply Box.drew | (with_reducible refine Box.newAt ?_ ?_ <;> first | (simp; done) | rfl) | with_reducible apply Box.alloc)) b)
  try clear k3a k3b k3c k3d k3z
  have k3z := K3.out.lt
  obtain ⟨k3a, k3b, k3c, k3d⟩ := K3.out.cell
  try clear k4a k4b k4c k4d k4z
  have k4z := K4.out.lt
  obtain ⟨k4a, k4b, k4c, k4d⟩ := K4.out.cell
  try clear k5a k5b k5c k5d k5z
  have k5z := K5.out.lt
  obtain ⟨k5a, k5b, k5c, k5d⟩ := K5.out.cell
  try clear k7a k7b k7c k7d k7z
  have k7z := K7.out.lt
  obtain ⟨k7a, k7b, k7c, k7d⟩ := K7.out.cell
  clear b
  go_upto_region 8 with fail
  clear Et Es k7a k7b k7c k7d k7z
  go_wp2_with fail
  refine ((HD2.out _ HR.out)).mono ?_
  rintro e ub ⟨x, y, z, rfl, hx, hy, hz, b⟩
  have Sub := Lib.hid b.size
  have HB := Lib.hid (chain0 (w := w) (by repeat (first | with_reducible exact Below.refl _ _ | with_reducible exact HB.out | with_reducible apply Below.drew | with_reducible apply bdN | with_reducible refine Below.alloc ?_ (by first | exact Nat.le_refl _ | with_reducible exact HB.out.size | omega | (simp; done) | (simp; omega) | (have := HB.out.size; simp at *; omega)) _ | with_reducible refine Below.setCell ?_ (by first | exact Nat.le_refl _ | with_reducible exact HB.out.size | omega | (simp; done) | (simp; omega) | (have := HB.out.size; simp at *; omega)) _)) b)
  have HR := Lib.hid (Rd.below (by repeat (first | with_reducible exact HR.out | with_reducible apply Rd.drewN | with_reducible apply Rd.drew | with_reducible apply Rd.alloc)) b)
  have K3 : Hid (Box _ (ua.heap.size) (a)) := Lib.hid (Box.below (by repeat (first | with_reducible exact K3.out | with_reducible apply Box.drewN | with_reducible apply Box.drew | (with_reducible refine Box.newAt ?_ ?_ <;> first | (simp; done) | rfl) | with_reducible apply Box.alloc)) b)
  have K4 : Hid (Box _ (ua.heap.size + 1) (d)) := Lib.hid (Box.below (by repeat (first | with_reducible exact K4.out | with_reducible apply Box.drewN | with_reducible apply Box.drew | (with_reducible refine Box.newAt ?_ ?_ <;> first | (simp; done) | rfl) | with_reducible apply Box.alloc)) b)
  have K5 : Hid (Box _ (w2.heap.size) (t)) := Lib.hid (Box.below (by repeat (first | with_reducible exact K5.out | with_reducible apply Box.drewN | with_reducible apply Box.drew | (with_reducible refine Box.newAt ?_ ?_ <;> first | (simp; done) | rfl) | with_reducible apply Box.alloc)) b)
  try clear k3a k3b k3c k3d k3z
  have k3z := K3.out.lt
  obtain ⟨k3a, k3b, k3c, k3d⟩ := K3.out.cell
  try clear k4a k4b k4c k4d k4z
  have k4z := K4.out.lt
  obtain ⟨k4a, k4b, k4c, k4d⟩ := K4.out.cell
  try clear k5a k5b k5c k5d k5z
  have k5z := K5.out.lt
  obtain ⟨k5a, k5b, k5c, k5d⟩ := K5.out.cell
  clear b
  clear hx hy hz
  go_upto_region 9 with fail
  obtain ⟨w6, ew, b⟩ : ∃ wOPN : World, wOPN = (((ub.alloc x.obj).alloc y.obj).alloc z.obj) ∧ Below ((((ub.alloc x.obj).alloc y.obj).alloc z.obj)).heap.size ((((ub.alloc x.obj).alloc y.obj).alloc z.obj)) wOPN := ⟨_, rfl, Below.refl _ _⟩
  rw [← ew]
  clear ew
  have Sw6 := Lib.hid b.size
  have HB := Lib.hid (chain0 (w := w) (by repeat (first | with_reducible exact Below.refl _ _ | with_reducible exact HB.out | with_reducible apply Below.drew | with_reducible apply bdN | with_reducible refine Below.alloc ?_ (by first | exact Nat.le_refl _ | with_reducible exact HB.out.size | omega | (simp; done) | (simp; omega) | (have := HB.out.size; simp at *; omega)) _ | with_reducible refine Below.setCell ?_ (by first | exact Nat.le_refl _ | with_reducible exact HB.out.size | omega | (simp; done) | (simp; omega) | (have := HB.out.size; simp at *; omega)) _)) b)
  have HR := Lib.hid (Rd.below (by repeat (first | with_reducible exact HR.out | with_reducible apply Rd.drewN | with_reducible apply Rd.drew | with_reducible apply Rd.alloc)) b)
  have K3 : Hid (Box _ (ua.heap.size) (a)) := Lib.hid (Box.below (by repeat (first | with_reducible exact K3.out | with_reducible apply Box.drewN | with_reducible apply Box.drew | (with_reducible refine Box.newAt ?_ ?_ <;> first | (simp; done) | rfl) | with_reducible apply Box.alloc)) b)
  have K4 : Hid (Box _ (ua.heap.size + 1) (d)) := Lib.hid (Box.below (by repeat (first | with_reducible exact K4.out | with_reducible apply Box.drewN | with_reducible apply Box.drew | (with_reducible refine Box.newAt ?_ ?_ <;> first | (simp; done) | rfl) | with_reducible apply Box.alloc)) b)
  have K5 : Hid (Box _ (w2.heap.size) (t)) := Lib.hid (Box.below (by repeat (first | with_reducible exact K5.out | with_reducible apply Box.drewN | with_reducible apply Box.drew | (with_reducible refine Box.newAt ?_ ?_ <;> first | (simp; done) | rfl) | with_reducible apply Box.alloc)) b)
  have K9 : Hid (Box _ (ub.heap.size) (x)) := Lib.hid (Box.below (by repeat (first | with_reducible exact K9.out | with_reducible apply Box.drewN | with_reducible apply Box.drew | (with_reducible refine Box.newAt ?_ ?_ <;> first | (simp; done) | rfl) | with_reducible apply Box.alloc)) b)
  have K10 : Hid (Box _ (ub.heap.size + 1) (y)) := Lib.hid (Box.below (by repeat (first | with_reducible exact K10.out | with_reducible apply Box.drewN | with_reducible apply Box.drew | (with_reducible refine Box.newAt ?_ ?_ <;> first | (simp; done) | rfl) | with_reducible apply Box.alloc)) b)
  have K11 : Hid (Box _ (ub.heap.size + 1 + 1) (z)) := Lib.hid (Box.below (by repeat (first | with_reducible exact K11.out | with_reducible apply Box.drewN | with_reducible apply Box.drew | (with_reducible refine Box.newAt ?_ ?_ <;> first | (simp; done) | rfl) | with_reducible apply Box.alloc)) b)
  try clear k3a k3b k3c k3d k3z
  have k3z := K3.out.lt
  obtain ⟨k3a, k3b, k3c, k3d⟩ := K3.out.cell
  try clear k4a k4b k4c k4d k4z
  have k4z := K4.out.lt
  obtain ⟨k4a, k4b, k4c, k4d⟩ := K4.out.cell
  try clear k5a k5b k5c k5d k5z
  have k5z := K5.out.lt
  obtain ⟨k5a, k5b, k5c, k5d⟩ := K5.out.cell
  try clear k9a k9b k9c k9d k9z
  have k9z := K9.out.lt
  obtain ⟨k9a, k9b, k9c, k9d⟩ := K9.out.cell
  try clear k10a k10b k10c k10d k10z
  have k10z := K10.out.lt
  obtain ⟨k10a, k10b, k10c, k10d⟩ := K10.out.cell
  try clear k11a k11b k11c k11d k11z
  have k11z := K11.out.lt
  obtain ⟨k11a, k11b, k11c, k11d⟩ := K11.out.cell
  clear b
  have HI2 := Lib.hid (fun w => impl_line x y z w)
  have HS2 := Lib.hid (fun w => spec_line x y z w)
  have HI3 := Lib.hid (fun w => impl_kind x y z w)
  have HS3 := Lib.hid (fun w => spec_kind x y z w)
  have HKk := Lib.hid (f_kind x y z)
  have HKd := Lib.hid (fun h => f_kd (x := x) (y := y) (z := z) h)
  have HKz := Lib.hid (fun h h2 => f_zero (x := x) (y := y) (z := z) h h2)
  have HLo := Lib.hid (fun h => l_ok (x := x) (y := y) (z := z) h)
  obtain ⟨ln, hln⟩ : ∃ ln, (lineR x y z).1 = ln := ⟨_, rfl⟩
  obtain ⟨one, hone⟩ : ∃ one, (lineR x y z).2 = one := ⟨_, rfl⟩
  obtain ⟨kd, hkd⟩ : ∃ kd, (kindR x y z).1 = kd := ⟨_, rfl⟩
  obtain ⟨two, htwo⟩ : ∃ two, (kindR x y z).2 = two := ⟨_, rfl⟩
  rw [hln, hone] at HI2 HS2 HKk
  rw [hkd, htwo] at HI3 HS3 HKd
  rw [htwo] at HKk
  rw [hone] at HKz HLo
  rw [hln] at HKz
  clear hln hone hkd htwo
  go_wp2_with fail
  refine ((HI2.out _)).mono ?_
  rintro e w7 ⟨rfl, b⟩
  have Sw7 := Lib.hid b.size
  have HB := Lib.hid (chain0 (w := w) (by repeat (first | with_reducible exact Below.refl _ _ | with_reducible exact HB.out | with_reducible apply Below.drew | with_reducible apply bdN | with_reducible refine Below.alloc ?_ (by first | exact Nat.le_refl _ | with_reducible exact HB.out.size | omega | (simp; done) | (simp; omega) | (have := HB.out.size; simp at *; omega)) _ | with_reducible refine Below.setCell ?_ (by first | exact Nat.le_refl _ | with_reducible exact HB.out.size | omega | (simp; done) | (simp; omega) | (have := HB.out.size; simp at *; omega)) _)) b)
  have HR := Lib.hid (Rd.below (by repeat (first | with_reducible exact HR.out | with_reducible apply Rd.drewN | with_reducible apply Rd.drew | with_reducible apply Rd.alloc)) b)
  have K3 : Hid (Box _ (ua.heap.size) (a)) := Lib.hid (Box.below (by repeat (first | with_reducible exact K3.out | with_reducible apply Box.drewN | with_reducible apply Box.drew | (with_reducible refine Box.newAt ?_ ?_ <;> first | (simp; done) | rfl) | with_reducible apply Box.alloc)) b)
  have K4 : Hid (Box _ (ua.heap.size + 1) (d)) := Lib.hid (Box.below (by repeat (first | with_reducible exact K4.out | with_reducible apply Box.drewN | with_reducible apply Box.drew | (with_reducible refine Box.newAt ?_ ?_ <;> first | (simp; done) | rfl) | with_reducible apply Box.alloc)) b)
  have K5 : Hid (Box _ (w2.heap.size) (t)) := Lib.hid (Box.below (by repeat (first | with_reducible exact K5.out | with_reducible apply Box.drewN | with_reducible apply Box.drew | (with_reducible refine Box.newAt ?_ ?_ <;> first | (simp; done) | rfl) | with_reducible apply Box.alloc)) b)
  have K9 : Hid (Box _ (ub.heap.size) (x)) := Lib.hid (Box.below (by repeat (first | with_reducible exact K9.out | with_reducible apply Box.drewN | with_reducible apply Box.drew | (with_reducible refine Box.newAt ?_ ?_ <;> first | (simp; done) | rfl) | with_reducible apply Box.alloc)) b)
  have K10 : Hid (Box _ (ub.heap.size + 1) (y)) := Lib.hid (Box.below (by repeat (first | with_reducible exact K10.out | with_reducible apply Box.drewN | with_reducible apply Box.drew | (with_reducible refine Box.newAt ?_ ?_ <;> first | (simp; done) | rfl) | with_reducible apply Box.alloc)) b)
  have K11 : Hid (Box _ (ub.heap.size + 1 + 1) (z)) := Lib.hid (Box.below (by repeat (first | with_reducible exact K11.out | with_reducible apply Box.drewN | with_reducible apply Box.drew | (with_reducible refine Box.newAt ?_ ?_ <;> first | (simp; done) | rfl) | with_reducible apply Box.alloc)) b)
  try clear k3a k3b k3c k3d k3z
  have k3z := K3.out.lt
  obtain ⟨k3a, k3b, k3c, k3d⟩ := K3.out.cell
  try clear k4a k4b k4c k4d k4z
  have k4z := K4.out.lt
  obtain ⟨k4a, k4b, k4c, k4d⟩ := K4.out.cell
  try clear k5a k5b k5c k5d k5z
  have k5z := K5.out.lt
  obtain ⟨k5a, k5b, k5c, k5d⟩ := K5.out.cell
  try clear k9a k9b k9c k9d k9z
  have k9z := K9.out.lt
  obtain ⟨k9a, k9b, k9c, k9d⟩ := K9.out.cell
  try clear k10a k10b k10c k10d k10z
  have k10z := K10.out.lt
  obtain ⟨k10a, k10b, k10c, k10d⟩ := K10.out.cell
  try clear k11a k11b k11c k11d k11z
  have k11z := K11.out.lt
  obtain ⟨k11a, k11b, k11c, k11d⟩ := K11.out.cell
  clear b
  go_wp2_with fail
  refine ((HS2.out _)).mono ?_
  rintro e w8 ⟨rfl, b⟩
  have Sw8 := Lib.hid b.size
  have HB := Lib.hid (chain0 (w := w) (by repeat (first | with_reducible exact Below.refl _ _ | with_reducible exact HB.out | with_reducible apply Below.drew | with_reducible apply bdN | with_reducible refine Below.alloc ?_ (by first | exact Nat.le_refl _ | with_reducible exact HB.out.size | omega | (simp; done) | (simp; omega) | (have := HB.out.size; simp at *; omega)) _ | with_reducible refine Below.setCell ?_ (by first | exact Nat.le_refl _ | with_reducible exact HB.out.size | omega | (simp; done) | (simp; omega) | (have := HB.out.size; simp at *; omega)) _)) b)
  have HR := Lib.hid (Rd.below (by repeat (first | with_reducible exact HR.out | with_reducible apply Rd.drewN | with_reducible apply Rd.drew | with_reducible apply Rd.alloc)) b)
  have K3 : Hid (Box _ (ua.heap.size) (a)) := Lib.hid (Box.below (by repeat (first | with_reducible exact K3.out | with_reducible apply Box.drewN | with_reducible apply Box.drew | (with_reducible refine Box.newAt ?_ ?_ <;> first | (simp; done) | rfl) | with_reducible apply Box.alloc)) b)
  have K4 : Hid (Box _ (ua.heap.size + 1) (d)) := Lib.hid (Box.below (by repeat (first | with_reducible exact K4.out | with_reducible apply Box.drewN | with_reducible apply Box.drew | (with_reducible refine Box.newAt ?_ ?_ <;> first | (simp; done) | rfl) | with_reducible apply Box.alloc)) b)
  have K5 : Hid (Box _ (w2.heap.size) (t)) := Lib.hid (Box.below (by repeat (first | with_reducible exact K5.out | with_reducible apply Box.drewN | with_reducible apply Box.drew | (with_reducible refine Box.newAt ?_ ?_ <;> first | (simp; done) | rfl) | with_reducible apply Box.alloc)) b)
  have K9 : Hid (Box _ (ub.heap.size) (x)) := Lib.hid (Box.below (by repeat (first | with_reducible exact K9.out | with_reducible apply Box.drewN | with_reducible apply Box.drew | (with_reducible refine Box.newAt ?_ ?_ <;> first | (simp; done) | rfl) | with_reducible apply Box.alloc)) b)
  have K10 : Hid (Box _ (ub.heap.size + 1) (y)) := Lib.hid (Box.below (by repeat (first | with_reducible exact K10.out | with_reducible apply Box.drewN | with_reducible apply Box.drew | (with_reducible refine Box.newAt ?_ ?_ <;> first | (simp; done) | rfl) | with_reducible apply Box.alloc)) b)
  have K11 : Hid (Box _ (ub.heap.size + 1 + 1) (z)) := Lib.hid (Box.below (by repeat (first | with_reducible exact K11.out | with_reducible apply Box.drewN | with_reducible apply Box.drew | (with_reducible refine Box.newAt ?_ ?_ <;> first | (simp; done) | rfl) | with_reducible apply Box.alloc)) b)
  try clear k3a k3b k3c k3d k3z
  have k3z := K3.out.lt
  obtain ⟨k3a, k3b, k3c, k3d⟩ := K3.out.cell
  try clear k4a k4b k4c k4d k4z
  have k4z := K4.out.lt
  obtain ⟨k4a, k4b, k4c, k4d⟩ := K4.out.cell
  try clear k5a k5b k5c k5d k5z
  have k5z := K5.out.lt
  obtain ⟨k5a, k5b, k5c, k5d⟩ := K5.out.cell
  try clear k9a k9b k9c k9d k9z
  have k9z := K9.out.lt
  obtain ⟨k9a, k9b, k9c, k9d⟩ := K9.out.cell
  try clear k10a k10b k10c k10d k10z
  have k10z := K10.out.lt
  obtain ⟨k10a, k10b, k10c, k10d⟩ := K10.out.cell
  try clear k11a k11b k11c k11d k11z
  have k11z := K11.out.lt
  obtain ⟨k11a, k11b, k11c, k11d⟩ := K11.out.cell
  clear b
  go_wp2_with fail
  refine ((HI3.out _)).mono ?_
  rintro e w9 ⟨rfl, b⟩
  have Sw9 := Lib.hid b.size
  have HB := Lib.hid (chain0 (w := w) (by repeat (first | with_reducible exact Below.refl _ _ | with_reducible exact HB.out | with_reducible apply Below.drew | with_reducible apply bdN | with_reducible refine Below.alloc ?_ (by first | exact Nat.le_refl _ | with_reducible exact HB.out.size | omega | (simp; done) | (simp; omega) | (have := HB.out.size; simp at *; omega)) _ | with_reducible refine Below.setCell ?_ (by first | exact Nat.le_refl _ | with_reducible exact HB.out.size | omega | (simp; done) | (simp; omega) | (have := HB.out.size; simp at *; omega)) _)) b)
  have HR := Lib.hid (Rd.below (by repeat (first | with_reducible exact HR.out | with_reducible apply Rd.drewN | with_reducible apply Rd.drew | with_reducible apply Rd.alloc)) b)
  have K3 : Hid (Box _ (ua.heap.size) (a)) := Lib.hid (Box.below (by repeat (first | with_reducible exact K3.out | with_reducible apply Box.drewN | with_reducible apply Box.drew | (with_reducible refine Box.newAt ?_ ?_ <;> first | (simp; done) | rfl) | with_reducible apply Box.alloc)) b)
  have K4 : Hid (Box _ (ua.heap.size + 1) (d)) := Lib.hid (Box.below (by repeat (first | with_reducible exact K4.out | with_reducible apply Box.drewN | with_reducible apply Box.drew | (with_reducible refine Box.newAt ?_ ?_ <;> first | (simp; done) | rfl) | with_reducible apply Box.alloc)) b)
  have K5 : Hid (Box _ (w2.heap.size) (t)) := Lib.hid (Box.below (by repeat (first | with_reducible exact K5.out | with_reducible apply Box.drewN | with_reducible apply Box.drew | (with_reducible refine Box.newAt ?_ ?_ <;> first | (simp; done) | rfl) | with_reducible apply Box.alloc)) b)
  have K9 : Hid (Box _ (ub.heap.size) (x)) := Lib.hid (Box.below (by repeat (first | with_reducible exact K9.out | with_reducible apply Box.drewN | with_reducible apply Box.drew | (with_reducible refine Box.newAt ?_ ?_ <;> first | (simp; done) | rfl) | with_reducible apply Box.alloc)) b)
  have K10 : Hid (Box _ (ub.heap.size + 1) (y)) := Lib.hid (Box.below (by repeat (first | with_reducible exact K10.out | with_reducible apply Box.drewN | with_reducible apply Box.drew | (with_reducible refine Box.newAt ?_ ?_ <;> first | (simp; done) | rfl) | with_reducible apply Box.alloc)) b)
  have K11 : Hid (Box _ (ub.heap.size + 1 + 1) (z)) := Lib.hid (Box.below (by repeat (first | with_reducible exact K11.out | with_reducible apply Box.drewN | with_reducible apply Box.drew | (with_reducible refine Box.newAt ?_ ?_ <;> first | (simp; done) | rfl) | with_reducible apply Box.alloc)) b)
  try clear k3a k3b k3c k3d k3z
  have k3z := K3.out.lt
  obtain ⟨k3a, k3b, k3c, k3d⟩ := K3.out.cell
  try clear k4a k4b k4c k4d k4z
  have k4z := K4.out.lt
  obtain ⟨k4a, k4b, k4c, k4d⟩ := K4.out.cell
  try clear k5a k5b k5c k5d k5z
  have k5z := K5.out.lt
  obtain ⟨k5a, k5b, k5c, k5d⟩ := K5.out.cell
  try clear k9a k9b k9c k9d k9z
  have k9z := K9.out.lt
  obtain ⟨k9a, k9b, k9c, k9d⟩ := K9.out.cell
  try clear k10a k10b k10c k10d k10z
  have k10z := K10.out.lt
  obtain ⟨k10a, k10b, k10c, k10d⟩ := K10.out.cell
  try clear k11a k11b k11c k11d k11z
  have k11z := K11.out.lt
  obtain ⟨k11a, k11b, k11c, k11d⟩ := K11.out.cell
  clear b
  go_wp2_with fail
  refine ((HS3.out _)).mono ?_
  rintro e w10 ⟨rfl, b⟩
  have Sw10 := Lib.hid b.size
  have HB := Lib.hid (chain0 (w := w) (by repeat (first | with_reducible exact Below.refl _ _ | with_reducible exact HB.out | with_reducible apply Below.drew | with_reducible apply bdN | with_reducible refine Below.alloc ?_ (by first | exact Nat.le_refl _ | with_reducible exact HB.out.size | omega | (simp; done) | (simp; omega) | (have := HB.out.size; simp at *; omega)) _ | with_reducible refine Below.setCell ?_ (by first | exact Nat.le_refl _ | with_reducible exact HB.out.size | omega | (simp; done) | (simp; omega) | (have := HB.out.size; simp at *; omega)) _)) b)
  have HR := Lib.hid (Rd.below (by repeat (first | with_reducible exact HR.out | with_reducible apply Rd.drewN | with_reducible apply Rd.drew | with_reducible apply Rd.alloc)) b)
  have K3 : Hid (Box _ (ua.heap.size) (a)) := Lib.hid (Box.below (by repeat (first | with_reducible exact K3.out | with_reducible apply Box.drewN | with_reducible apply Box.drew | (with_reducible refine Box.newAt ?_ ?_ <;> first | (simp; done) | rfl) | with_reducible apply Box.alloc)) b)
  have K4 : Hid (Box _ (ua.heap.size + 1) (d)) := Lib.hid (Box.below (by repeat (first | with_reducible exact K4.out | with_reducible apply Box.drewN | with_reducible apply Box.drew | (with_reducible refine Box.newAt ?_ ?_ <;> first | (simp; done) | rfl) | with_reducible apply Box.alloc)) b)
  have K5 : Hid (Box _ (w2.heap.size) (t)) := Lib.hid (Box.below (by repeat (first | with_reducible exact K5.out | with_reducible apply Box.drewN | with_reducible apply Box.drew | (with_reducible refine Box.newAt ?_ ?_ <;> first | (simp; done) | rfl) | with_reducible apply Box.alloc)) b)
  have K9 : Hid (Box _ (ub.heap.size) (x)) := Lib.hid (Box.below (by repeat (first | with_reducible exact K9.out | with_reducible apply Box.drewN | with_reducible apply Box.drew | (with_reducible refine Box.newAt ?_ ?_ <;> first | (simp; done) | rfl) | with_reducible apply Box.alloc)) b)
  have K10 : Hid (Box _ (ub.heap.size + 1) (y)) := Lib.hid (Box.below (by repeat (first | with_reducible exact K10.out | with_reducible apply Box.drewN | with_reducible apply Box.drew | (with_reducible refine Box.newAt ?_ ?_ <;> first | (simp; done) | rfl) | with_reducible apply Box.alloc)) b)
  have K11 : Hid (Box _ (ub.heap.size + 1 + 1) (z)) := Lib.hid (Box.below (by repeat (first | with_reducible exact K11.out | with_reducible apply Box.drewN | with_reducible apply Box.drew | (with_reducible refine Box.newAt ?_ ?_ <;> first | (simp; done) | rfl) | with_reducible apply Box.alloc)) b)
  try clear k3a k3b k3c k3d k3z
  have k3z := K3.out.lt
  obtain ⟨k3a, k3b, k3c, k3d⟩ := K3.out.cell
  try clear k4a k4b k4c k4d k4z
  have k4z := K4.out.lt
  obtain ⟨k4a, k4b, k4c, k4d⟩ := K4.out.cell
  try clear k5a k5b k5c k5d k5z
  have k5z := K5.out.lt
  obtain ⟨k5a, k5b, k5c, k5d⟩ := K5.out.cell
  try clear k9a k9b k9c k9d k9z
  have k9z := K9.out.lt
  obtain ⟨k9a, k9b, k9c, k9d⟩ := K9.out.cell
  try clear k10a k10b k10c k10d k10z
  have k10z := K10.out.lt
  obtain ⟨k10a, k10b, k10c, k10d⟩ := K10.out.cell
  try clear k11a k11b k11c k11d k11z
  have k11z := K11.out.lt
  obtain ⟨k11a, k11b, k11c, k11d⟩ := K11.out.cell
  clear b
  go_upto_region 15 with fail
  go_cut [133] (fun s wx => s = .bool false ∧ wx = w10)
  case first =>
    have h := HKk.out
    clear HI1 HS1 HI2 HS2 HI3 HS3
    cases one
    · simp only [Bool.false_and] at h
      subst h
      as_aux_lemma => (go_wp2_with fail; go_meet; exact ⟨rfl, rfl⟩)
    · simp only [Bool.true_and] at h
      subst h
      as_aux_lemma => (go_wp2_with fail; go_meet; exact ⟨rfl, rfl⟩)
  case rest => as_aux_lemma =>
    obtain ⟨rfl, ew⟩ := hcut
    rw [ew]
    clear ew
    have HI4 := Lib.hid (fun w => impl_dif a d w)
    have HS4 := Lib.hid (fun w => spec_dif a d w)
    have HFd := Lib.hid (f_dif a d)
    obtain ⟨df, hdf⟩ : ∃ df, (difR a d).1 = df := ⟨_, rfl⟩
    obtain ⟨three, h3⟩ : ∃ three, (difR a d).2 = three := ⟨_, rfl⟩
    rw [hdf, h3] at HI4 HS4 HTf
    rw [h3] at HFd
    clear hdf h3
    go_wp2_with fail
    refine ((HI4.out _)).mono ?_
    rintro e w11 ⟨rfl, b⟩
    have Sw11 := Lib.hid b.size
    have HB := Lib.hid (chain0 (w := w) (by repeat (first | with_reducible exact Below.refl _ _ | with_reducible exact HB.out | with_reducible apply Below.drew | with_reducible apply bdN | with_reducible refine Below.alloc ?_ (by first | exact Nat.le_refl _ | with_reducible exact HB.out.size | omega | (simp; done) | (simp; omega) | (have := HB.out.size; simp at *; omega)) _ | with_reducible refine Below.setCell ?_ (by first | exact Nat.le_refl _ | with_reducible exact HB.out.size | omega | (simp; done) | (simp; omega) | (have := HB.out.size; simp at *; omega)) _)) b)
    have HR := Lib.hid (Rd.below (by repeat (first | with_reducible exact HR.out | with_reducible apply Rd.drewN | with_reducible apply Rd.drew | with_reducible apply Rd.alloc)) b)
    have K3 : Hid (Box _ (ua.heap.size) (a)) := Lib.hid (Box.below (by repeat (first | with_reducible exact K3.out | with_reducible apply Box.drewN | with_reducible apply Box.drew | (with_reducible refine Box.newAt ?_ ?_ <;> first | (simp; done) | rfl) | with_reducible apply Box.alloc)) b)
    have K4 : Hid (Box _ (ua.heap.size + 1) (d)) := Lib.hid (Box.below (by repeat (first | with_reducible exact K4.out | with_reducible apply Box.drewN | with_reducible apply Box.drew | (with_reducible refine Box.newAt ?_ ?_ <;> first | (simp; done) | rfl) | with_reducible apply Box.alloc)) b)
    have K5 : Hid (Box _ (w2.heap.size) (t)) := Lib.hid (Box.below (by repeat (first | with_reducible exact K5.out | with_reducible apply Box.drewN | with_reducible apply Box.drew | (with_reducible refine Box.newAt ?_ ?_ <;> first | (simp; done) | rfl) | with_reducible apply Box.alloc)) b)
    have K9 : Hid (Box _ (ub.heap.size) (x)) := Lib.hid (Box.below (by repeat (first | with_reducible exact K9.out | with_reducible apply Box.drewN | with_reducible apply Box.drew | (with_reducible refine Box.newAt ?_ ?_ <;> first | (simp; done) | rfl) | with_reducible apply Box.alloc)) b)
    have K10 : Hid (Box _ (ub.heap.size + 1) (y)) := Lib.hid (Box.below (by repeat (first | with_reducible exact K10.out | with_reducible apply Box.drewN | with_reducible apply Box.drew | (with_reducible refine Box.newAt ?_ ?_ <;> first | (simp; done) | rfl) | with_reducible apply Box.alloc)) b)
    have K11 : Hid (Box _ (ub.heap.size + 1 + 1) (z)) := Lib.hid (Box.below (by repeat (first | with_reducible exact K11.out | with_reducible apply Box.drewN | with_reducible apply Box.drew | (with_reducible refine Box.newAt ?_ ?_ <;> first | (simp; done) | rfl) | with_reducible apply Box.alloc)) b)
    try clear k3a k3b k3c k3d k3z
    have k3z := K3.out.lt
    obtain ⟨k3a, k3b, k3c, k3d⟩ := K3.out.cell
    try clear k4a k4b k4c k4d k4z
    have k4z := K4.out.lt
    obtain ⟨k4a, k4b, k4c, k4d⟩ := K4.out.cell
    try clear k5a k5b k5c k5d k5z
    have k5z := K5.out.lt
    obtain ⟨k5a, k5b, k5c, k5d⟩ := K5.out.cell
    try clear k9a k9b k9c k9d k9z
    have k9z := K9.out.lt
    obtain ⟨k9a, k9b, k9c, k9d⟩ := K9.out.cell
    try clear k10a k10b k10c k10d k10z
    have k10z := K10.out.lt
    obtain ⟨k10a, k10b, k10c, k10d⟩ := K10.out.cell
    try clear k11a k11b k11c k11d k11z
    have k11z := K11.out.lt
    obtain ⟨k11a, k11b, k11c, k11d⟩ := K11.out.cell
    clear b
    go_wp2_with fail
    refine ((HS4.out _)).mono ?_
    rintro e w12 ⟨rfl, b⟩
    have Sw12 := Lib.hid b.size
    have HB := Lib.hid (chain0 (w := w) (by repeat (first | with_reducible exact Below.refl _ _ | with_reducible exact HB.out | with_reducible apply Below.drew | with_reducible apply bdN | with_reducible refine Below.alloc ?_ (by first | exact Nat.le_refl _ | with_reducible exact HB.out.size | omega | (simp; done) | (simp; omega) | (have := HB.out.size; simp at *; omega)) _ | with_reducible refine Below.setCell ?_ (by first | exact Nat.le_refl _ | with_reducible exact HB.out.size | omega | (simp; done) | (simp; omega) | (have := HB.out.size; simp at *; omega)) _)) b)
    have HR := Lib.hid (Rd.below (by repeat (first | with_reducible exact HR.out | with_reducible apply Rd.drewN | with_reducible apply Rd.drew | with_reducible apply Rd.alloc)) b)
    have K3 : Hid (Box _ (ua.heap.size) (a)) := Lib.hid (Box.below (by repeat (first | with_reducible exact K3.out | with_reducible apply Box.drewN | with_reducible apply Box.drew | (with_reducible refine Box.newAt ?_ ?_ <;> first | (simp; done) | rfl) | with_reducible apply Box.alloc)) b)
    have K4 : Hid (Box _ (ua.heap.size + 1) (d)) := Lib.hid (Box.below (by repeat (first | with_reducible exact K4.out | with_reducible apply Box.drewN | with_reducible apply Box.drew | (with_reducible refine Box.newAt ?_ ?_ <;> first | (simp; done) | rfl) | with_reducible apply Box.alloc)) b)
    have K5 : Hid (Box _ (w2.heap.size) (t)) := Lib.hid (Box.below (by repeat (first | with_reducible exact K5.out | with_reducible apply Box.drewN | with_reducible apply Box.drew | (with_reducible refine Box.newAt ?_ ?_ <;> first | (simp; done) | rfl) | with_reducible apply Box.alloc)) b)
    have K9 : Hid (Box _ (ub.heap.size) (x)) := Lib.hid (Box.below (by repeat (first | with_reducible exact K9.out | with_reducible apply Box.drewN | with_reducible apply Box.drew | (with_reducible refine Box.newAt ?_ ?_ <;> first | (simp; done) | rfl) | with_reducible apply Box.alloc)) b)
    have K10 : Hid (Box _ (ub.heap.size + 1) (y)) := Lib.hid (Box.below (by repeat (first | with_reducible exact K10.out | with_reducible apply Box.drewN | with_reducible apply Box.drew | (with_reducible refine Box.newAt ?_ ?_ <;> first | (simp; done) | rfl) | with_reducible apply Box.alloc)) b)
    have K11 : Hid (Box _ (ub.heap.size + 1 + 1) (z)) := Lib.hid (Box.below (by repeat (first | with_reducible exact K11.out | with_reducible apply Box.drewN | with_reducible apply Box.drew | (with_reducible refine Box.newAt ?_ ?_ <;> first | (simp; done) | rfl) | with_reducible apply Box.alloc)) b)
    try clear k3a k3b k3c k3d k3z
    have k3z := K3.out.lt
    obtain ⟨k3a, k3b, k3c, k3d⟩ := K3.out.cell
    try clear k4a k4b k4c k4d k4z
    have k4z := K4.out.lt
    obtain ⟨k4a, k4b, k4c, k4d⟩ := K4.out.cell
    try clear k5a k5b k5c k5d k5z
    have k5z := K5.out.lt
    obtain ⟨k5a, k5b, k5c, k5d⟩ := K5.out.cell
    try clear k9a k9b k9c k9d k9z
    have k9z := K9.out.lt
    obtain ⟨k9a, k9b, k9c, k9d⟩ := K9.out.cell
    try clear k10a k10b k10c k10d k10z
    have k10z := K10.out.lt
    obtain ⟨k10a, k10b, k10c, k10d⟩ := K10.out.cell
    try clear k11a k11b k11c k11d k11z
    have k11z := K11.out.lt
    obtain ⟨k11a, k11b, k11c, k11d⟩ := K11.out.cell
    clear b
    go_upto_region 19 with fail
    go_cut [172] (fun s wx => s = .bool false ∧ Hid (Below w.heap.size w wx) ∧ Hid (Rd wx p (bys l)) ∧ Hid (Box wx (ua.heap.size) a) ∧ Hid (Box wx (ua.heap.size + 1) d) ∧ Hid (Box wx (w2.heap.size) t) ∧ Hid (Box wx (ub.heap.size) x) ∧ Hid (Box wx (ub.heap.size + 1) y) ∧ Hid (Box wx (ub.heap.size + 1 + 1) z))
    case first =>
      have HA := Lib.hid (fun w => is_card a w)
      have HD := Lib.hid (fun w => is_card d w)
      have hf := HFd.out
      have ht := HTf.out
      obtain ⟨ao, hao⟩ : ∃ ao, a.ok = ao := ⟨_, rfl⟩
      obtain ⟨dd, hdd⟩ : ∃ dd, d.ok = dd := ⟨_, rfl⟩
      rw [hao] at HA hf
      rw [hdd] at HD hf
      clear hao hdd HI1 HS1 HI2 HS2 HI3 HS3 HI4 HS4 HD1 HD2 HD3
      cases ao
      · simp only [Bool.false_and] at hf
        subst hf
        simp only [Bool.false_and] at ht
        subst ht
        as_aux_lemma =>
          go_wp2_with fail
          refine ((HA.out _)).mono ?_
          rintro e wa ⟨rfl, b⟩
          have Swa := Lib.hid b.size
          have HB := Lib.hid (chain0 (w := w) (by repeat (first | with_reducible exact Below.refl _ _ | with_reducible exact HB.out | with_reducible apply Below.drew | with_reducible apply bdN | with_reducible refine Below.alloc ?_ (by first | exact Nat.le_refl _ | with_reducible exact HB.out.size | omega | (simp; done) | (simp; omega) | (have := HB.out.size; simp at *; omega)) _ | with_reducible refine Below.setCell ?_ (by first | exact Nat.le_refl _ | with_reducible exact HB.out.size | omega | (simp; done) | (simp; omega) | (have := HB.out.size; simp at *; omega)) _)) b)
          have HR := Lib.hid (Rd.below (by repeat (first | with_reducible exact HR.out | with_reducible apply Rd.drewN | with_reducible apply Rd.drew | with_reducible apply Rd.alloc)) b)
          have K3 : Hid (Box _ (ua.heap.size) (a)) := Lib.hid (Box.below (by repeat (first | with_reducible exact K3.out | with_reducible apply Box.drewN | with_reducible apply Box.drew | (with_reducible refine Box.newAt ?_ ?_ <;> first | (simp; done) | rfl) | with_reducible apply Box.alloc)) b)
          have K4 : Hid (Box _ (ua.heap.size + 1) (d)) := Lib.hid (Box.below (by repeat (first | with_reducible exact K4.out | with_reducible apply Box.drewN | with_reducible apply Box.drew | (with_reducible refine Box.newAt ?_ ?_ <;> first | (simp; done) | rfl) | with_reducible apply Box.alloc)) b)
          have K5 : Hid (Box _ (w2.heap.size) (t)) := Lib.hid (Box.below (by repeat (first | with_reducible exact K5.out | with_reducible apply Box.drewN | with_reducible apply Box.drew | (with_reducible refine Box.newAt ?_ ?_ <;> first | (simp; done) | rfl) | with_reducible apply Box.alloc)) b)
          have K9 : Hid (Box _ (ub.heap.size) (x)) := Lib.hid (Box.below (by repeat (first | with_reducible exact K9.out | with_reducible apply Box.drewN | with_reducible apply Box.drew | (with_reducible refine Box.newAt ?_ ?_ <;> first | (simp; done) | rfl) | with_reducible apply Box.alloc)) b)
          have K10 : Hid (Box _ (ub.heap.size + 1) (y)) := Lib.hid (Box.below (by repeat (first | with_reducible exact K10.out | with_reducible apply Box.drewN | with_reducible apply Box.drew | (with_reducible refine Box.newAt ?_ ?_ <;> first | (simp; done) | rfl) | with_reducible apply Box.alloc)) b)
          have K11 : Hid (Box _ (ub.heap.size + 1 + 1) (z)) := Lib.hid (Box.below (by repeat (first | with_reducible exact K11.out | with_reducible apply Box.drewN | with_reducible apply Box.drew | (with_reducible refine Box.newAt ?_ ?_ <;> first | (simp; done) | rfl) | with_reducible apply Box.alloc)) b)
          try clear k3a k3b k3c k3d k3z
          have k3z := K3.out.lt
          obtain ⟨k3a, k3b, k3c, k3d⟩ := K3.out.cell
          try clear k4a k4b k4c k4d k4z
          have k4z := K4.out.lt
          obtain ⟨k4a, k4b, k4c, k4d⟩ := K4.out.cell
          try clear k5a k5b k5c k5d k5z
          have k5z := K5.out.lt
          obtain ⟨k5a, k5b, k5c, k5d⟩ := K5.out.cell
          try clear k9a k9b k9c k9d k9z
          have k9z := K9.out.lt
          obtain ⟨k9a, k9b, k9c, k9d⟩ := K9.out.cell
          try clear k10a k10b k10c k10d k10z
          have k10z := K10.out.lt
          obtain ⟨k10a, k10b, k10c, k10d⟩ := K10.out.cell
          try clear k11a k11b k11c k11d k11z
          have k11z := K11.out.lt
          obtain ⟨k11a, k11b, k11c, k11d⟩ := K11.out.cell
          clear b
          go_wp2_with fail
          go_meet
          exact ⟨rfl, HB, HR, K3, K4, K5, K9, K10, K11⟩
      · simp only [Bool.true_and] at hf
        cases dd
        · subst hf
          simp only [Bool.false_and] at ht
          subst ht
          as_aux_lemma =>
            go_wp2_with fail
            refine ((HA.out _)).mono ?_
            rintro e wa ⟨rfl, b⟩
            have Swa := Lib.hid b.size
            have HB := Lib.hid (chain0 (w := w) (by repeat (first | with_reducible exact Below.refl _ _ | with_reducible exact HB.out | with_reducible apply Below.drew | with_reducible apply bdN | with_reducible refine Below.alloc ?_ (by first | exact Nat.le_refl _ | with_reducible exact HB.out.size | omega | (simp; done) | (simp; omega) | (have := HB.out.size; simp at *; omega)) _ | with_reducible refine Below.setCell ?_ (by first | exact Nat.le_refl _ | with_reducible exact HB.out.size | omega | (simp; done) | (simp; omega) | (have := HB.out.size; simp at *; omega)) _)) b)
            have HR := Lib.hid (Rd.below (by repeat (first | with_reducible exact HR.out | with_reducible apply Rd.drewN | with_reducible apply Rd.drew | with_reducible apply Rd.alloc)) b)
            have K3 : Hid (Box _ (ua.heap.size) (a)) := Lib.hid (Box.below (by repeat (first | with_reducible exact K3.out | with_reducible apply Box.drewN | with_reducible apply Box.drew | (with_reducible refine Box.newAt ?_ ?_ <;> first | (simp; done) | rfl) | with_reducible apply Box.alloc)) b)
            have K4 : Hid (Box _ (ua.heap.size + 1) (d)) := Lib.hid (Box.below (by repeat (first | with_reducible exact K4.out | with_reducible apply Box.drewN | with_reducible apply Box.drew | (with_reducible refine Box.newAt ?_ ?_ <;> first | (simp; done) | rfl) | with_reducible apply Box.alloc)) b)
            have K5 : Hid (Box _ (w2.heap.size) (t)) := Lib.hid (Box.below (by repeat (first | with_reducible exact K5.out | with_reducible apply Box.drewN | with_reducible apply Box.drew | (with_reducible refine Box.newAt ?_ ?_ <;> first | (simp; done) | rfl) | with_reducible apply Box.alloc)) b)
            have K9 : Hid (Box _ (ub.heap.size) (x)) := Lib.hid (Box.below (by repeat (first | with_reducible exact K9.out | with_reducible apply Box.drewN | with_reducible apply Box.drew | (with_reducible refine Box.newAt ?_ ?_ <;> first | (simp; done) | rfl) | with_reducible apply Box.alloc)) b)
            have K10 : Hid (Box _ (ub.heap.size + 1) (y)) := Lib.hid (Box.below (by repeat (first | with_reducible exact K10.out | with_reducible apply Box.drewN | with_reducible apply Box.drew | (with_reducible refine Box.newAt ?_ ?_ <;> first | (simp; done) | rfl) | with_reducible apply Box.alloc)) b)
            have K11 : Hid (Box _ (ub.heap.size + 1 + 1) (z)) := Lib.hid (Box.below (by repeat (first | with_reducible exact K11.out | with_reducible apply Box.drewN | with_reducible apply Box.drew | (with_reducible refine Box.newAt ?_ ?_ <;> first | (simp; done) | rfl) | with_reducible apply Box.alloc)) b)
            try clear k3a k3b k3c k3d k3z
            have k3z := K3.out.lt
            obtain ⟨k3a, k3b, k3c, k3d⟩ := K3.out.cell
            try clear k4a k4b k4c k4d k4z
            have k4z := K4.out.lt
            obtain ⟨k4a, k4b, k4c, k4d⟩ := K4.out.cell
            try clear k5a k5b k5c k5d k5z
            have k5z := K5.out.lt
            obtain ⟨k5a, k5b, k5c, k5d⟩ := K5.out.cell
            try clear k9a k9b k9c k9d k9z
            have k9z := K9.out.lt
            obtain ⟨k9a, k9b, k9c, k9d⟩ := K9.out.cell
            try clear k10a k10b k10c k10d k10z
            have k10z := K10.out.lt
            obtain ⟨k10a, k10b, k10c, k10d⟩ := K10.out.cell
            try clear k11a k11b k11c k11d k11z
            have k11z := K11.out.lt
            obtain ⟨k11a, k11b, k11c, k11d⟩ := K11.out.cell
            clear b
            go_wp2_with fail
            refine ((HD.out _)).mono ?_
            rintro e wb ⟨rfl, b⟩
            have Swb := Lib.hid b.size
            have HB := Lib.hid (chain0 (w := w) (by repeat (first | with_reducible exact Below.refl _ _ | with_reducible exact HB.out | with_reducible apply Below.drew | with_reducible apply bdN | with_reducible refine Below.alloc ?_ (by first | exact Nat.le_refl _ | with_reducible exact HB.out.size | omega | (simp; done) | (simp; omega) | (have := HB.out.size; simp at *; omega)) _ | with_reducible refine Below.setCell ?_ (by first | exact Nat.le_refl _ | with_reducible exact HB.out.size | omega | (simp; done) | (simp; omega) | (have := HB.out.size; simp at *; omega)) _)) b)
            have HR := Lib.hid (Rd.below (by repeat (first | with_reducible exact HR.out | with_reducible apply Rd.drewN | with_reducible apply Rd.drew | with_reducible apply Rd.alloc)) b)
            have K3 : Hid (Box _ (ua.heap.size) (a)) := Lib.hid (Box.below (by repeat (first | with_reducible exact K3.out | with_reducible apply Box.drewN | with_reducible apply Box.drew | (with_reducible refine Box.newAt ?_ ?_ <;> first | (simp; done) | rfl) | with_reducible apply Box.alloc)) b)
            have K4 : Hid (Box _ (ua.heap.size + 1) (d)) := Lib.hid (Box.below (by repeat (first | with_reducible exact K4.out | with_reducible apply Box.drewN | with_reducible apply Box.drew | (with_reducible refine Box.newAt ?_ ?_ <;> first | (simp; done) | rfl) | with_reducible apply Box.alloc)) b)
            have K5 : Hid (Box _ (w2.heap.size) (t)) := Lib.hid (Box.below (by repeat (first | with_reducible exact K5.out | with_reducible apply Box.drewN | with_reducible apply Box.drew | (with_reducible refine Box.newAt ?_ ?_ <;> first | (simp; done) | rfl) | with_reducible apply Box.alloc)) b)
            have K9 : Hid (Box _ (ub.heap.size) (x)) := Lib.hid (Box.below (by repeat (first | with_reducible exact K9.out | with_reducible apply Box.drewN | with_reducible apply Box.drew | (with_reducible refine Box.newAt ?_ ?_ <;> first | (simp; done) | rfl) | with_reducible apply Box.alloc)) b)
            have K10 : Hid (Box _ (ub.heap.size + 1) (y)) := Lib.hid (Box.below (by repeat (first | with_reducible exact K10.out | with_reducible apply Box.drewN | with_reducible apply Box.drew | (with_reducible refine Box.newAt ?_ ?_ <;> first | (simp; done) | rfl) | with_reducible apply Box.alloc)) b)
            have K11 : Hid (Box _ (ub.heap.size + 1 + 1) (z)) := Lib.hid (Box.below (by repeat (first | with_reducible exact K11.out | with_reducible apply Box.drewN | with_reducible apply Box.drew | (with_reducible refine Box.newAt ?_ ?_ <;> first | (simp; done) | rfl) | with_reducible apply Box.alloc)) b)
            try clear k3a k3b k3c k3d k3z
            have k3z := K3.out.lt
            obtain ⟨k3a, k3b, k3c, k3d⟩ := K3.out.cell
            try clear k4a k4b k4c k4d k4z
            have k4z := K4.out.lt
            obtain ⟨k4a, k4b, k4c, k4d⟩ := K4.out.cell
            try clear k5a k5b k5c k5d k5z
            have k5z := K5.out.lt
            obtain ⟨k5a, k5b, k5c, k5d⟩ := K5.out.cell
            try clear k9a k9b k9c k9d k9z
            have k9z := K9.out.lt
            obtain ⟨k9a, k9b, k9c, k9d⟩ := K9.out.cell
            try clear k10a k10b k10c k10d k10z
            have k10z := K10.out.lt
            obtain ⟨k10a, k10b, k10c, k10d⟩ := K10.out.cell
            try clear k11a k11b k11c k11d k11z
            have k11z := K11.out.lt
            obtain ⟨k11a, k11b, k11c, k11d⟩ := K11.out.cell
            clear b
            go_wp2_with fail
            go_meet
            exact ⟨rfl, HB, HR, K3, K4, K5, K9, K10, K11⟩
        · subst hf
          simp only [Bool.true_and] at ht
          subst ht
          as_aux_lemma =>
            go_wp2_with fail
            refine ((HA.out _)).mono ?_
            rintro e wa ⟨rfl, b⟩
            have Swa := Lib.hid b.size
            have HB := Lib.hid (chain0 (w := w) (by repeat (first | with_reducible exact Below.refl _ _ | with_reducible exact HB.out | with_reducible apply Below.drew | with_reducible apply bdN | with_reducible refine Below.alloc ?_ (by first | exact Nat.le_refl _ | with_reducible exact HB.out.size | omega | (simp; done) | (simp; omega) | (have := HB.out.size; simp at *; omega)) _ | with_reducible refine Below.setCell ?_ (by first | exact Nat.le_refl _ | with_reducible exact HB.out.size | omega | (simp; done) | (simp; omega) | (have := HB.out.size; simp at *; omega)) _)) b)
            have HR := Lib.hid (Rd.below (by repeat (first | with_reducible exact HR.out | with_reducible apply Rd.drewN | with_reducible apply Rd.drew | with_reducible apply Rd.alloc)) b)
            have K3 : Hid (Box _ (ua.heap.size) (a)) := Lib.hid (Box.below (by repeat (first | with_reducible exact K3.out | with_reducible apply Box.drewN | with_reducible apply Box.drew | (with_reducible refine Box.newAt ?_ ?_ <;> first | (simp; done) | rfl) | with_reducible apply Box.alloc)) b)
            have K4 : Hid (Box _ (ua.heap.size + 1) (d)) := Lib.hid (Box.below (by repeat (first | with_reducible exact K4.out | with_reducible apply Box.drewN | with_reducible apply Box.drew | (with_reducible refine Box.newAt ?_ ?_ <;> first | (simp; done) | rfl) | with_reducible apply Box.alloc)) b)
            have K5 : Hid (Box _ (w2.heap.size) (t)) := Lib.hid (Box.below (by repeat (first | with_reducible exact K5.out | with_reducible apply Box.drewN | with_reducible apply Box.drew | (with_reducible refine Box.newAt ?_ ?_ <;> first | (simp; done) | rfl) | with_reducible apply Box.alloc)) b)
            have K9 : Hid (Box _ (ub.heap.size) (x)) := Lib.hid (Box.below (by repeat (first | with_reducible exact K9.out | with_reducible apply Box.drewN | with_reducible apply Box.drew | (with_reducible refine Box.newAt ?_ ?_ <;> first | (simp; done) | rfl) | with_reducible apply Box.alloc)) b)
            have K10 : Hid (Box _ (ub.heap.size + 1) (y)) := Lib.hid (Box.below (by repeat (first | with_reducible exact K10.out | with_reducible apply Box.drewN | with_reducible apply Box.drew | (with_reducible refine Box.newAt ?_ ?_ <;> first | (simp; done) | rfl) | with_reducible apply Box.alloc)) b)
            have K11 : Hid (Box _ (ub.heap.size + 1 + 1) (z)) := Lib.hid (Box.below (by repeat (first | with_reducible exact K11.out | with_reducible apply Box.drewN | with_reducible apply Box.drew | (with_reducible refine Box.newAt ?_ ?_ <;> first | (simp; done) | rfl) | with_reducible apply Box.alloc)) b)
            try clear k3a k3b k3c k3d k3z
            have k3z := K3.out.lt
            obtain ⟨k3a, k3b, k3c, k3d⟩ := K3.out.cell
            try clear k4a k4b k4c k4d k4z
            have k4z := K4.out.lt
            obtain ⟨k4a, k4b, k4c, k4d⟩ := K4.out.cell
            try clear k5a k5b k5c k5d k5z
            have k5z := K5.out.lt
            obtain ⟨k5a, k5b, k5c, k5d⟩ := K5.out.cell
            try clear k9a k9b k9c k9d k9z
            have k9z := K9.out.lt
            obtain ⟨k9a, k9b, k9c, k9d⟩ := K9.out.cell
            try clear k10a k10b k10c k10d k10z
            have k10z := K10.out.lt
            obtain ⟨k10a, k10b, k10c, k10d⟩ := K10.out.cell
            try clear k11a k11b k11c k11d k11z
            have k11z := K11.out.lt
            obtain ⟨k11a, k11b, k11c, k11d⟩ := K11.out.cell
            clear b
            go_wp2_with fail
            refine ((HD.out _)).mono ?_
            rintro e wb ⟨rfl, b⟩
            have Swb := Lib.hid b.size
            have HB := Lib.hid (chain0 (w := w) (by repeat (first | with_reducible exact Below.refl _ _ | with_reducible exact HB.out | with_reducible apply Below.drew | with_reducible apply bdN | with_reducible refine Below.alloc ?_ (by first | exact Nat.le_refl _ | with_reducible exact HB.out.size | omega | (simp; done) | (simp; omega) | (have := HB.out.size; simp at *; omega)) _ | with_reducible refine Below.setCell ?_ (by first | exact Nat.le_refl _ | with_reducible exact HB.out.size | omega | (simp; done) | (simp; omega) | (have := HB.out.size; simp at *; omega)) _)) b)
            have HR := Lib.hid (Rd.below (by repeat (first | with_reducible exact HR.out | with_reducible apply Rd.drewN | with_reducible apply Rd.drew | with_reducible apply Rd.alloc)) b)
            have K3 : Hid (Box _ (ua.heap.size) (a)) := Lib.hid (Box.below (by repeat (first | with_reducible exact K3.out | with_reducible apply Box.drewN | with_reducible apply Box.drew | (with_reducible refine Box.newAt ?_ ?_ <;> first | (simp; done) | rfl) | with_reducible apply Box.alloc)) b)
            have K4 : Hid (Box _ (ua.heap.size + 1) (d)) := Lib.hid (Box.below (by repeat (first | with_reducible exact K4.out | with_reducible apply Box.drewN | with_reducible apply Box.drew | (with_reducible refine Box.newAt ?_ ?_ <;> first | (simp; done) | rfl) | with_reducible apply Box.alloc)) b)
            have K5 : Hid (Box _ (w2.heap.size) (t)) := Lib.hid (Box.below (by repeat (first | with_reducible exact K5.out | with_reducible apply Box.drewN | with_reducible apply Box.drew | (with_reducible refine Box.newAt ?_ ?_ <;> first | (simp; done) | rfl) | with_reducible apply Box.alloc)) b)
            have K9 : Hid (Box _ (ub.heap.size) (x)) := Lib.hid (Box.below (by repeat (first | with_reducible exact K9.out | with_reducible apply Box.drewN | with_reducible apply Box.drew | (with_reducible refine Box.newAt ?_ ?_ <;> first | (simp; done) | rfl) | with_reducible apply Box.alloc)) b)
            have K10 : Hid (Box _ (ub.heap.size + 1) (y)) := Lib.hid (Box.below (by repeat (first | with_reducible exact K10.out | with_reducible apply Box.drewN | with_reducible apply Box.drew | (with_reducible refine Box.newAt ?_ ?_ <;> first | (simp; done) | rfl) | with_reducible apply Box.alloc)) b)
            have K11 : Hid (Box _ (ub.heap.size + 1 + 1) (z)) := Lib.hid (Box.below (by repeat (first | with_reducible exact K11.out | with_reducible apply Box.drewN | with_reducible apply Box.drew | (with_reducible refine Box.newAt ?_ ?_ <;> first | (simp; done) | rfl) | with_reducible apply Box.alloc)) b)
            try clear k3a k3b k3c k3d k3z
            have k3z := K3.out.lt
            obtain ⟨k3a, k3b, k3c, k3d⟩ := K3.out.cell
            try clear k4a k4b k4c k4d k4z
            have k4z := K4.out.lt
            obtain ⟨k4a, k4b, k4c, k4d⟩ := K4.out.cell
            try clear k5a k5b k5c k5d k5z
            have k5z := K5.out.lt
            obtain ⟨k5a, k5b, k5c, k5d⟩ := K5.out.cell
            try clear k9a k9b k9c k9d k9z
            have k9z := K9.out.lt
            obtain ⟨k9a, k9b, k9c, k9d⟩ := K9.out.cell
            try clear k10a k10b k10c k10d k10z
            have k10z := K10.out.lt
            obtain ⟨k10a, k10b, k10c, k10d⟩ := K10.out.cell
            try clear k11a k11b k11c k11d k11z
            have k11z := K11.out.lt
            obtain ⟨k11a, k11b, k11c, k11d⟩ := K11.out.cell
            clear b
            go_wp2_with fail
            go_meet
            exact ⟨rfl, HB, HR, K3, K4, K5, K9, K10, K11⟩
    case rest => as_aux_lemma =>
      clear k3a k3b k3c k3d k3z k4a k4b k4c k4d k4z k5a k5b k5c k5d k5z k9a k9b k9c k9d k9z k10a k10b k10c k10d k10z k11a k11b k11c k11d k11z HB HR K3 K4 K5 K9 K10 K11
      obtain ⟨rfl, HB, HR, K3, K4, K5, K9, K10, K11⟩ := hcut
      obtain ⟨w13, ew, b⟩ : ∃ wOPN : World, wOPN = wc ∧ Below (wc).heap.size (wc) wOPN := ⟨_, rfl, Below.refl _ _⟩
      rw [← ew]
      clear ew
      have Sw13 := Lib.hid b.size
      have HB := Lib.hid (chain0 (w := w) (by repeat (first | with_reducible exact Below.refl _ _ | with_reducible exact HB.out | with_reducible apply Below.drew | with_reducible apply bdN | with_reducible refine Below.alloc ?_ (by first | exact Nat.le_refl _ | with_reducible exact HB.out.size | omega | (simp; done) | (simp; omega) | (have := HB.out.size; simp at *; omega)) _ | with_reducible refine Below.setCell ?_ (by first | exact Nat.le_refl _ | with_reducible exact HB.out.size | omega | (simp; done) | (simp; omega) | (have := HB.out.size; simp at *; omega)) _)) b)
      have HR := Lib.hid (Rd.below (by repeat (first | with_reducible exact HR.out | with_reducible apply Rd.drewN | with_reducible apply Rd.drew | with_reducible apply Rd.alloc)) b)
      have K3 : Hid (Box _ (ua.heap.size) (a)) := Lib.hid (Box.below (by repeat (first | with_reducible exact K3.out | with_reducible apply Box.drewN | with_reducible apply Box.drew | (with_reducible refine Box.newAt ?_ ?_ <;> first | (simp; done) | rfl) | with_reducible apply Box.alloc)) b)
      have K4 : Hid (Box _ (ua.heap.size + 1) (d)) := Lib.hid (Box.below (by repeat (first | with_reducible exact K4.out | with_reducible apply Box.drewN | with_reducible apply Box.drew | (with_reducible refine Box.newAt ?_ ?_ <;> first | (simp; done) | rfl) | with_reducible apply Box.alloc)) b)
      have K5 : Hid (Box _ (w2.heap.size) (t)) := Lib.hid (Box.below (by repeat (first | with_reducible exact K5.out | with_reducible apply Box.drewN | with_reducible apply Box.drew | (with_reducible refine Box.newAt ?_ ?_ <;> first | (simp; done) | rfl) | with_reducible apply Box.alloc)) b)
      have K9 : Hid (Box _ (ub.heap.size) (x)) := Lib.hid (Box.below (by repeat (first | with_reducible exact K9.out | with_reducible apply Box.drewN | with_reducible apply Box.drew | (with_reducible refine Box.newAt ?_ ?_ <;> first | (simp; done) | rfl) | with_reducible apply Box.alloc)) b)
      have K10 : Hid (Box _ (ub.heap.size + 1) (y)) := Lib.hid (Box.below (by repeat (first | with_reducible exact K10.out | with_reducible apply Box.drewN | with_reducible apply Box.drew | (with_reducible refine Box.newAt ?_ ?_ <;> first | (simp; done) | rfl) | with_reducible apply Box.alloc)) b)
      have K11 : Hid (Box _ (ub.heap.size + 1 + 1) (z)) := Lib.hid (Box.below (by repeat (first | with_reducible exact K11.out | with_reducible apply Box.drewN | with_reducible apply Box.drew | (with_reducible refine Box.newAt ?_ ?_ <;> first | (simp; done) | rfl) | with_reducible apply Box.alloc)) b)
      try clear k3a k3b k3c k3d k3z
      have k3z := K3.out.lt
      obtain ⟨k3a, k3b, k3c, k3d⟩ := K3.out.cell
      try clear k4a k4b k4c k4d k4z
      have k4z := K4.out.lt
      obtain ⟨k4a, k4b, k4c, k4d⟩ := K4.out.cell
      try clear k5a k5b k5c k5d k5z
      have k5z := K5.out.lt
      obtain ⟨k5a, k5b, k5c, k5d⟩ := K5.out.cell
      try clear k9a k9b k9c k9d k9z
      have k9z := K9.out.lt
      obtain ⟨k9a, k9b, k9c, k9d⟩ := K9.out.cell
      try clear k10a k10b k10c k10d k10z
      have k10z := K10.out.lt
      obtain ⟨k10a, k10b, k10c, k10d⟩ := K10.out.cell
      try clear k11a k11b k11c k11d k11z
      have k11z := K11.out.lt
      obtain ⟨k11a, k11b, k11c, k11d⟩ := K11.out.cell
      clear b
      have HI5 := Lib.hid (fun w => impl_num a w)
      have HS5 := Lib.hid (fun w => spec_num a w)
      have HA := Lib.hid (fun w => is_card a w)
      have HNb := Lib.hid (fun h => f_back (x := a) h)
      obtain ⟨nb, hnb⟩ : ∃ nb, (numR a).1 = nb := ⟨_, rfl⟩
      rw [f_num a] at HI5 HS5 HNb
      rw [hnb] at HI5 HS5 HNb
      obtain ⟨ao, hao⟩ : ∃ ao, a.ok = ao := ⟨_, rfl⟩
      have HAo := Lib.hid hao
      rw [hao] at HI5 HS5 HA HNb
      clear hnb hao
      go_wp2_with fail
      refine ((HI5.out _)).mono ?_
      rintro e w14 ⟨rfl, b⟩
      have Sw14 := Lib.hid b.size
      have HB := Lib.hid (chain0 (w := w) (by repeat (first | with_reducible exact Below.refl _ _ | with_reducible exact HB.out | with_reducible apply Below.drew | with_reducible apply bdN | with_reducible refine Below.alloc ?_ (by first | exact Nat.le_refl _ | with_reducible exact HB.out.size | omega | (simp; done) | (simp; omega) | (have := HB.out.size; simp at *; omega)) _ | with_reducible refine Below.setCell ?_ (by first | exact Nat.le_refl _ | with_reducible exact HB.out.size | omega | (simp; done) | (simp; omega) | (have := HB.out.size; simp at *; omega)) _)) b)
      have HR := Lib.hid (Rd.below (by repeat (first | with_reducible exact HR.out | with_reducible apply Rd.drewN | with_reducible apply Rd.drew | with_reducible apply Rd.alloc)) b)
      have K3 : Hid (Box _ (ua.heap.size) (a)) := Lib.hid (Box.below (by repeat (first | with_reducible exact K3.out | with_reducible apply Box.drewN | with_reducible apply Box.drew | (with_reducible refine Box.newAt ?_ ?_ <;> first | (simp; done) | rfl) | with_reducible apply Box.alloc)) b)
      have K4 : Hid (Box _ (ua.heap.size + 1) (d)) := Lib.hid (Box.below (by repeat (first | with_reducible exact K4.out | with_reducible apply Box.drewN | with_reducible apply Box.drew | (with_reducible refine Box.newAt ?_ ?_ <;> first | (simp; done) | rfl) | with_reducible apply Box.alloc)) b)
      have K5 : Hid (Box _ (w2.heap.size) (t)) := Lib.hid (Box.below (by repeat (first | with_reducible exact K5.out | with_reducible apply Box.drewN | with_reducible apply Box.drew | (with_reducible refine Box.newAt ?_ ?_ <;> first | (simp; done) | rfl) | with_reducible apply Box.alloc)) b)
      have K9 : Hid (Box _ (ub.heap.size) (x)) := Lib.hid (Box.below (by repeat (first | with_reducible exact K9.out | with_reducible apply Box.drewN | with_reducible apply Box.drew | (with_reducible refine Box.newAt ?_ ?_ <;> first | (simp; done) | rfl) | with_reducible apply Box.alloc)) b)
      have K10 : Hid (Box _ (ub.heap.size + 1) (y)) := Lib.hid (Box.below (by repeat (first | with_reducible exact K10.out | with_reducible apply Box.drewN | with_reducible apply Box.drew | (with_reducible refine Box.newAt ?_ ?_ <;> first | (simp; done) | rfl) | with_reducible apply Box.alloc)) b)
      have K11 : Hid (Box _ (ub.heap.size + 1 + 1) (z)) := Lib.hid (Box.below (by repeat (first | with_reducible exact K11.out | with_reducible apply Box.drewN | with_reducible apply Box.drew | (with_reducible refine Box.newAt ?_ ?_ <;> first | (simp; done) | rfl) | with_reducible apply Box.alloc)) b)
      try clear k3a k3b k3c k3d k3z
      have k3z := K3.out.lt
      obtain ⟨k3a, k3b, k3c, k3d⟩ := K3.out.cell
      try clear k4a k4b k4c k4d k4z
      have k4z := K4.out.lt
      obtain ⟨k4a, k4b, k4c, k4d⟩ := K4.out.cell
      try clear k5a k5b k5c k5d k5z
      have k5z := K5.out.lt
      obtain ⟨k5a, k5b, k5c, k5d⟩ := K5.out.cell
      try clear k9a k9b k9c k9d k9z
      have k9z := K9.out.lt
      obtain ⟨k9a, k9b, k9c, k9d⟩ := K9.out.cell
      try clear k10a k10b k10c k10d k10z
      have k10z := K10.out.lt
      obtain ⟨k10a, k10b, k10c, k10d⟩ := K10.out.cell
      try clear k11a k11b k11c k11d k11z
      have k11z := K11.out.lt
      obtain ⟨k11a, k11b, k11c, k11d⟩ := K11.out.cell
      clear b
      go_wp2_with fail
      refine ((HS5.out _)).mono ?_
      rintro e w15 ⟨rfl, b⟩
      have Sw15 := Lib.hid b.size
      have HB := Lib.hid (chain0 (w := w) (by repeat (first | with_reducible exact Below.refl _ _ | with_reducible exact HB.out | with_reducible apply Below.drew | with_reducible apply bdN | with_reducible refine Below.alloc ?_ (by first | exact Nat.le_refl _ | with_reducible exact HB.out.size | omega | (simp; done) | (simp; omega) | (have := HB.out.size; simp at *; omega)) _ | with_reducible refine Below.setCell ?_ (by first | exact Nat.le_refl _ | with_reducible exact HB.out.size | omega | (simp; done) | (simp; omega) | (have := HB.out.size; simp at *; omega)) _)) b)
      have HR := Lib.hid (Rd.below (by repeat (first | with_reducible exact HR.out | with_reducible apply Rd.drewN | with_reducible apply Rd.drew | with_reducible apply Rd.alloc)) b)
      have K3 : Hid (Box _ (ua.heap.size) (a)) := Lib.hid (Box.below (by repeat (first | with_reducible exact K3.out | with_reducible apply Box.drewN | with_reducible apply Box.drew | (with_reducible refine Box.newAt ?_ ?_ <;> first | (simp; done) | rfl) | with_reducible apply Box.alloc)) b)
      have K4 : Hid (Box _ (ua.heap.size + 1) (d)) := Lib.hid (Box.below (by repeat (first | with_reducible exact K4.out | with_reducible apply Box.drewN | with_reducible apply Box.drew | (with_reducible refine Box.newAt ?_ ?_ <;> first | (simp; done) | rfl) | with_reducible apply Box.alloc)) b)
      have K5 : Hid (Box _ (w2.heap.size) (t)) := Lib.hid (Box.below (by repeat (first | with_reducible exact K5.out | with_reducible apply Box.drewN | with_reducible apply Box.drew | (with_reducible refine Box.newAt ?_ ?_ <;> first | (simp; done) | rfl) | with_reducible apply Box.alloc)) b)
      have K9 : Hid (Box _ (ub.heap.size) (x)) := Lib.hid (Box.below (by repeat (first | with_reducible exact K9.out | with_reducible apply Box.drewN | with_reducible apply Box.drew | (with_reducible refine Box.newAt ?_ ?_ <;> first | (simp; done) | rfl) | with_reducible apply Box.alloc)) b)
      have K10 : Hid (Box _ (ub.heap.size + 1) (y)) := Lib.hid (Box.below (by repeat (first | with_reducible exact K10.out | with_reducible apply Box.drewN | with_reducible apply Box.drew | (with_reducible refine Box.newAt ?_ ?_ <;> first | (simp; done) | rfl) | with_reducible apply Box.alloc)) b)
      have K11 : Hid (Box _ (ub.heap.size + 1 + 1) (z)) := Lib.hid (Box.below (by repeat (first | with_reducible exact K11.out | with_reducible apply Box.drewN | with_reducible apply Box.drew | (with_reducible refine Box.newAt ?_ ?_ <;> first | (simp; done) | rfl) | with_reducible apply Box.alloc)) b)
      try clear k3a k3b k3c k3d k3z
      have k3z := K3.out.lt
      obtain ⟨k3a, k3b, k3c, k3d⟩ := K3.out.cell
      try clear k4a k4b k4c k4d k4z
      have k4z := K4.out.lt
      obtain ⟨k4a, k4b, k4c, k4d⟩ := K4.out.cell
      try clear k5a k5b k5c k5d k5z
      have k5z := K5.out.lt
      obtain ⟨k5a, k5b, k5c, k5d⟩ := K5.out.cell
      try clear k9a k9b k9c k9d k9z
      have k9z := K9.out.lt
      obtain ⟨k9a, k9b, k9c, k9d⟩ := K9.out.cell
      try clear k10a k10b k10c k10d k10z
      have k10z := K10.out.lt
      obtain ⟨k10a, k10b, k10c, k10d⟩ := K10.out.cell
      try clear k11a k11b k11c k11d k11z
      have k11z := K11.out.lt
      obtain ⟨k11a, k11b, k11c, k11d⟩ := K11.out.cell
      clear b
      go_wp2_with fail
      refine ((HA.out _)).mono ?_
      rintro e w16 ⟨rfl, b⟩
      have Sw16 := Lib.hid b.size
      have HB := Lib.hid (chain0 (w := w) (by repeat (first | with_reducible exact Below.refl _ _ | with_reducible exact HB.out | with_reducible apply Below.drew | with_reducible apply bdN | with_reducible refine Below.alloc ?_ (by first | exact Nat.le_refl _ | with_reducible exact HB.out.size | omega | (simp; done) | (simp; omega) | (have := HB.out.size; simp at *; omega)) _ | with_reducible refine Below.setCell ?_ (by first | exact Nat.le_refl _ | with_reducible exact HB.out.size | omega | (simp; done) | (simp; omega) | (have := HB.out.size; simp at *; omega)) _)) b)
      have HR := Lib.hid (Rd.below (by repeat (first | with_reducible exact HR.out | with_reducible apply Rd.drewN | with_reducible apply Rd.drew | with_reducible apply Rd.alloc)) b)
      have K3 : Hid (Box _ (ua.heap.size) (a)) := Lib.hid (Box.below (by repeat (first | with_reducible exact K3.out | with_reducible apply Box.drewN | with_reducible apply Box.drew | (with_reducible refine Box.newAt ?_ ?_ <;> first | (simp; done) | rfl) | with_reducible apply Box.alloc)) b)
      have K4 : Hid (Box _ (ua.heap.size + 1) (d)) := Lib.hid (Box.below (by repeat (first | with_reducible exact K4.out | with_reducible apply Box.drewN | with_reducible apply Box.drew | (with_reducible refine Box.newAt ?_ ?_ <;> first | (simp; done) | rfl) | with_reducible apply Box.alloc)) b)
      have K5 : Hid (Box _ (w2.heap.size) (t)) := Lib.hid (Box.below (by repeat (first | with_reducible exact K5.out | with_reducible apply Box.drewN | with_reducible apply Box.drew | (with_reducible refine Box.newAt ?_ ?_ <;> first | (simp; done) | rfl) | with_reducible apply Box.alloc)) b)
      have K9 : Hid (Box _ (ub.heap.size) (x)) := Lib.hid (Box.below (by repeat (first | with_reducible exact K9.out | with_reducible apply Box.drewN | with_reducible apply Box.drew | (with_reducible refine Box.newAt ?_ ?_ <;> first | (simp; done) | rfl) | with_reducible apply Box.alloc)) b)
      have K10 : Hid (Box _ (ub.heap.size + 1) (y)) := Lib.hid (Box.below (by repeat (first | with_reducible exact K10.out | with_reducible apply Box.drewN | with_reducible apply Box.drew | (with_reducible refine Box.newAt ?_ ?_ <;> first | (simp; done) | rfl) | with_reducible apply Box.alloc)) b)
      have K11 : Hid (Box _ (ub.heap.size + 1 + 1) (z)) := Lib.hid (Box.below (by repeat (first | with_reducible exact K11.out | with_reducible apply Box.drewN | with_reducible apply Box.drew | (with_reducible refine Box.newAt ?_ ?_ <;> first | (simp; done) | rfl) | with_reducible apply Box.alloc)) b)
      try clear k3a k3b k3c k3d k3z
      have k3z := K3.out.lt
      obtain ⟨k3a, k3b, k3c, k3d⟩ := K3.out.cell
      try clear k4a k4b k4c k4d k4z
      have k4z := K4.out.lt
      obtain ⟨k4a, k4b, k4c, k4d⟩ := K4.out.cell
      try clear k5a k5b k5c k5d k5z
      have k5z := K5.out.lt
      obtain ⟨k5a, k5b, k5c, k5d⟩ := K5.out.cell
      try clear k9a k9b k9c k9d k9z
      have k9z := K9.out.lt
      obtain ⟨k9a, k9b, k9c, k9d⟩ := K9.out.cell
      try clear k10a k10b k10c k10d k10z
      have k10z := K10.out.lt
      obtain ⟨k10a, k10b, k10c, k10d⟩ := K10.out.cell
      try clear k11a k11b k11c k11d k11z
      have k11z := K11.out.lt
      obtain ⟨k11a, k11b, k11c, k11d⟩ := K11.out.cell
      clear b
      go_wp2_with fail
      refine ((HD3.out _ HR.out)).mono ?_
      rintro e uc ⟨nn, rfl, h1, h2, b⟩
      have Suc := Lib.hid b.size
      have HB := Lib.hid (chain0 (w := w) (by repeat (first | with_reducible exact Below.refl _ _ | with_reducible exact HB.out | with_reducible apply Below.drew | with_reducible apply bdN | with_reducible refine Below.alloc ?_ (by first | exact Nat.le_refl _ | with_reducible exact HB.out.size | omega | (simp; done) | (simp; omega) | (have := HB.out.size; simp at *; omega)) _ | with_reducible refine Below.setCell ?_ (by first | exact Nat.le_refl _ | with_reducible exact HB.out.size | omega | (simp; done) | (simp; omega) | (have := HB.out.size; simp at *; omega)) _)) b)
      have HR := Lib.hid (Rd.below (by repeat (first | with_reducible exact HR.out | with_reducible apply Rd.drewN | with_reducible apply Rd.drew | with_reducible apply Rd.alloc)) b)
      have K3 : Hid (Box _ (ua.heap.size) (a)) := Lib.hid (Box.below (by repeat (first | with_reducible exact K3.out | with_reducible apply Box.drewN | with_reducible apply Box.drew | (with_reducible refine Box.newAt ?_ ?_ <;> first | (simp; done) | rfl) | with_reducible apply Box.alloc)) b)
      have K4 : Hid (Box _ (ua.heap.size + 1) (d)) := Lib.hid (Box.below (by repeat (first | with_reducible exact K4.out | with_reducible apply Box.drewN | with_reducible apply Box.drew | (with_reducible refine Box.newAt ?_ ?_ <;> first | (simp; done) | rfl) | with_reducible apply Box.alloc)) b)
      have K5 : Hid (Box _ (w2.heap.size) (t)) := Lib.hid (Box.below (by repeat (first | with_reducible exact K5.out | with_reducible apply Box.drewN | with_reducible apply Box.drew | (with_reducible refine Box.newAt ?_ ?_ <;> first | (simp; done) | rfl) | with_reducible apply Box.alloc)) b)
      have K9 : Hid (Box _ (ub.heap.size) (x)) := Lib.hid (Box.below (by repeat (first | with_reducible exact K9.out | with_reducible apply Box.drewN | with_reducible apply Box.drew | (with_reducible refine Box.newAt ?_ ?_ <;> first | (simp; done) | rfl) | with_reducible apply Box.alloc)) b)
      have K10 : Hid (Box _ (ub.heap.size + 1) (y)) := Lib.hid (Box.below (by repeat (first | with_reducible exact K10.out | with_reducible apply Box.drewN | with_reducible apply Box.drew | (with_reducible refine Box.newAt ?_ ?_ <;> first | (simp; done) | rfl) | with_reducible apply Box.alloc)) b)
      have K11 : Hid (Box _ (ub.heap.size + 1 + 1) (z)) := Lib.hid (Box.below (by repeat (first | with_reducible exact K11.out | with_reducible apply Box.drewN | with_reducible apply Box.drew | (with_reducible refine Box.newAt ?_ ?_ <;> first | (simp; done) | rfl) | with_reducible apply Box.alloc)) b)
      try clear k3a k3b k3c k3d k3z
      have k3z := K3.out.lt
      obtain ⟨k3a, k3b, k3c, k3d⟩ := K3.out.cell
      try clear k4a k4b k4c k4d k4z
      have k4z := K4.out.lt
      obtain ⟨k4a, k4b, k4c, k4d⟩ := K4.out.cell
      try clear k5a k5b k5c k5d k5z
      have k5z := K5.out.lt
      obtain ⟨k5a, k5b, k5c, k5d⟩ := K5.out.cell
      try clear k9a k9b k9c k9d k9z
      have k9z := K9.out.lt
      obtain ⟨k9a, k9b, k9c, k9d⟩ := K9.out.cell
      try clear k10a k10b k10c k10d k10z
      have k10z := K10.out.lt
      obtain ⟨k10a, k10b, k10c, k10d⟩ := K10.out.cell
      try clear k11a k11b k11c k11d k11z
      have k11z := K11.out.lt
      obtain ⟨k11a, k11b, k11c, k11d⟩ := K11.out.cell
      clear b
      clear h1 h2
      have HI6 := Lib.hid (fun n w => impl_at n w)
      have HS6 := Lib.hid (fun w => spec_at nn w)
      have HI6a := Lib.hid (HI6.out nn)
      have HTa := Lib.hid (a_ok nn)
      obtain ⟨at_, hat⟩ : ∃ q, (atR nn).1 = q := ⟨_, rfl⟩
      obtain ⟨five, h5⟩ : ∃ five, (atR nn).2 = five := ⟨_, rfl⟩
      rw [hat, h5] at HI6a HS6
      rw [hat] at HTa
      clear hat h5
      go_wp2_with fail
      refine ((HI6a.out _)).mono ?_
      rintro e w17 ⟨rfl, b⟩
      have Sw17 := Lib.hid b.size
      have HB := Lib.hid (chain0 (w := w) (by repeat (first | with_reducible exact Below.refl _ _ | with_reducible exact HB.out | with_reducible apply Below.drew | with_reducible apply bdN | with_reducible refine Below.alloc ?_ (by first | exact Nat.le_refl _ | with_reducible exact HB.out.size | omega | (simp; done) | (simp; omega) | (have := HB.out.size; simp at *; omega)) _ | with_reducible refine Below.setCell ?_ (by first | exact Nat.le_refl _ | with_reducible exact HB.out.size | omega | (simp; done) | (simp; omega) | (have := HB.out.size; simp at *; omega)) _)) b)
      have K3 : Hid (Box _ (ua.heap.size) (a)) := Lib.hid (Box.below (by repeat (first | with_reducible exact K3.out | with_reducible apply Box.drewN | with_reducible apply Box.drew | (with_reducible refine Box.newAt ?_ ?_ <;> first | (simp; done) | rfl) | with_reducible apply Box.alloc)) b)
      have K4 : Hid (Box _ (ua.heap.size + 1) (d)) := Lib.hid (Box.below (by repeat (first | with_reducible exact K4.out | with_reducible apply Box.drewN | with_reducible apply Box.drew | (with_reducible refine Box.newAt ?_ ?_ <;> first | (simp; done) | rfl) | with_reducible apply Box.alloc)) b)
      have K5 : Hid (Box _ (w2.heap.size) (t)) := Lib.hid (Box.below (by repeat (first | with_reducible exact K5.out | with_reducible apply Box.drewN | with_reducible apply Box.drew | (with_reducible refine Box.newAt ?_ ?_ <;> first | (simp; done) | rfl) | with_reducible apply Box.alloc)) b)
      have K9 : Hid (Box _ (ub.heap.size) (x)) := Lib.hid (Box.below (by repeat (first | with_reducible exact K9.out | with_reducible apply Box.drewN | with_reducible apply Box.drew | (with_reducible refine Box.newAt ?_ ?_ <;> first | (simp; done) | rfl) | with_reducible apply Box.alloc)) b)
      have K10 : Hid (Box _ (ub.heap.size + 1) (y)) := Lib.hid (Box.below (by repeat (first | with_reducible exact K10.out | with_reducible apply Box.drewN | with_reducible apply Box.drew | (with_reducible refine Box.newAt ?_ ?_ <;> first | (simp; done) | rfl) | with_reducible apply Box.alloc)) b)
      have K11 : Hid (Box _ (ub.heap.size + 1 + 1) (z)) := Lib.hid (Box.below (by repeat (first | with_reducible exact K11.out | with_reducible apply Box.drewN | with_reducible apply Box.drew | (with_reducible refine Box.newAt ?_ ?_ <;> first | (simp; done) | rfl) | with_reducible apply Box.alloc)) b)
      try clear k3a k3b k3c k3d k3z
      have k3z := K3.out.lt
      obtain ⟨k3a, k3b, k3c, k3d⟩ := K3.out.cell
      try clear k4a k4b k4c k4d k4z
      have k4z := K4.out.lt
      obtain ⟨k4a, k4b, k4c, k4d⟩ := K4.out.cell
      try clear k5a k5b k5c k5d k5z
      have k5z := K5.out.lt
      obtain ⟨k5a, k5b, k5c, k5d⟩ := K5.out.cell
      try clear k9a k9b k9c k9d k9z
      have k9z := K9.out.lt
      obtain ⟨k9a, k9b, k9c, k9d⟩ := K9.out.cell
      try clear k10a k10b k10c k10d k10z
      have k10z := K10.out.lt
      obtain ⟨k10a, k10b, k10c, k10d⟩ := K10.out.cell
      try clear k11a k11b k11c k11d k11z
      have k11z := K11.out.lt
      obtain ⟨k11a, k11b, k11c, k11d⟩ := K11.out.cell
      clear b
      go_upto_region 27 with fail
      obtain ⟨w18, ew, b⟩ : ∃ wOPN : World, wOPN = (w17.alloc at_.obj) ∧ Below ((w17.alloc at_.obj)).heap.size ((w17.alloc at_.obj)) wOPN := ⟨_, rfl, Below.refl _ _⟩
      rw [← ew]
      clear ew
      have Sw18 := Lib.hid b.size
      have HB := Lib.hid (chain0 (w := w) (by repeat (first | with_reducible exact Below.refl _ _ | with_reducible exact HB.out | with_reducible apply Below.drew | with_reducible apply bdN | with_reducible refine Below.alloc ?_ (by first | exact Nat.le_refl _ | with_reducible exact HB.out.size | omega | (simp; done) | (simp; omega) | (have := HB.out.size; simp at *; omega)) _ | with_reducible refine Below.setCell ?_ (by first | exact Nat.le_refl _ | with_reducible exact HB.out.size | omega | (simp; done) | (simp; omega) | (have := HB.out.size; simp at *; omega)) _)) b)
      have K3 : Hid (Box _ (ua.heap.size) (a)) := Lib.hid (Box.below (by repeat (first | with_reducible exact K3.out | with_reducible apply Box.drewN | with_reducible apply Box.drew | (with_reducible refine Box.newAt ?_ ?_ <;> first | (simp; done) | rfl) | with_reducible apply Box.alloc)) b)
      have K4 : Hid (Box _ (ua.heap.size + 1) (d)) := Lib.hid (Box.below (by repeat (first | with_reducible exact K4.out | with_reducible apply Box.drewN | with_reducible apply Box.drew | (with_reducible refine Box.newAt ?_ ?_ <;> first | (simp; done) | rfl) | with_reducible apply Box.alloc)) b)
      have K5 : Hid (Box _ (w2.heap.size) (t)) := Lib.hid (Box.below (by repeat (first | with_reducible exact K5.out | with_reducible apply Box.drewN | with_reducible apply Box.drew | (with_reducible refine Box.newAt ?_ ?_ <;> first | (simp; done) | rfl) | with_reducible apply Box.alloc)) b)
      have K9 : Hid (Box _ (ub.heap.size) (x)) := Lib.hid (Box.below (by repeat (first | with_reducible exact K9.out | with_reducible apply Box.drewN | with_reducible apply Box.drew | (with_reducible refine Box.newAt ?_ ?_ <;> first | (simp; done) | rfl) | with_reducible apply Box.alloc)) b)
      have K10 : Hid (Box _ (ub.heap.size + 1) (y)) := Lib.hid (Box.below (by repeat (first | with_reducible exact K10.out | with_reducible apply Box.drewN | with_reducible apply Box.drew | (with_reducible refine Box.newAt ?_ ?_ <;> first | (simp; done) | rfl) | with_reducible apply Box.alloc)) b)
      have K11 : Hid (Box _ (ub.heap.size + 1 + 1) (z)) := Lib.hid (Box.below (by repeat (first | with_reducible exact K11.out | with_reducible apply Box.drewN | with_reducible apply Box.drew | (with_reducible refine Box.newAt ?_ ?_ <;> first | (simp; done) | rfl) | with_reducible apply Box.alloc)) b)
      have K29 : Hid (Box _ (w17.heap.size) (at_)) := Lib.hid (Box.below (by repeat (first | with_reducible exact K29.out | with_reducible apply Box.drewN | with_reducible apply Box.drew | (with_reducible refine Box.newAt ?_ ?_ <;> first | (simp; done) | rfl) | with_reducible apply Box.alloc)) b)
      try clear k3a k3b k3c k3d k3z
      have k3z := K3.out.lt
      obtain ⟨k3a, k3b, k3c, k3d⟩ := K3.out.cell
      try clear k4a k4b k4c k4d k4z
      have k4z := K4.out.lt
      obtain ⟨k4a, k4b, k4c, k4d⟩ := K4.out.cell
      try clear k5a k5b k5c k5d k5z
      have k5z := K5.out.lt
      obtain ⟨k5a, k5b, k5c, k5d⟩ := K5.out.cell
      try clear k9a k9b k9c k9d k9z
      have k9z := K9.out.lt
      obtain ⟨k9a, k9b, k9c, k9d⟩ := K9.out.cell
      try clear k10a k10b k10c k10d k10z
      have k10z := K10.out.lt
      obtain ⟨k10a, k10b, k10c, k10d⟩ := K10.out.cell
      try clear k11a k11b k11c k11d k11z
      have k11z := K11.out.lt
      obtain ⟨k11a, k11b, k11c, k11d⟩ := K11.out.cell
      try clear k29a k29b k29c k29d k29z
      have k29z := K29.out.lt
      obtain ⟨k29a, k29b, k29c, k29d⟩ := K29.out.cell
      clear b
      go_wp2_with fail
      refine ((HS6.out _)).mono ?_
      rintro e w19 ⟨rfl, b⟩
      have Sw19 := Lib.hid b.size
      have HB := Lib.hid (chain0 (w := w) (by repeat (first | with_reducible exact Below.refl _ _ | with_reducible exact HB.out | with_reducible apply Below.drew | with_reducible apply bdN | with_reducible refine Below.alloc ?_ (by first | exact Nat.le_refl _ | with_reducible exact HB.out.size | omega | (simp; done) | (simp; omega) | (have := HB.out.size; simp at *; omega)) _ | with_reducible refine Below.setCell ?_ (by first | exact Nat.le_refl _ | with_reducible exact HB.out.size | omega | (simp; done) | (simp; omega) | (have := HB.out.size; simp at *; omega)) _)) b)
      have K3 : Hid (Box _ (ua.heap.size) (a)) := Lib.hid (Box.below (by repeat (first | with_reducible exact K3.out | with_reducible apply Box.drewN | with_reducible apply Box.drew | (with_reducible refine Box.newAt ?_ ?_ <;> first | (simp; done) | rfl) | with_reducible apply Box.alloc)) b)
      have K4 : Hid (Box _ (ua.heap.size + 1) (d)) := Lib.hid (Box.below (by repeat (first | with_reducible exact K4.out | with_reducible apply Box.drewN | with_reducible apply Box.drew | (with_reducible refine Box.newAt ?_ ?_ <;> first | (simp; done) | rfl) | with_reducible apply Box.alloc)) b)
      have K5 : Hid (Box _ (w2.heap.size) (t)) := Lib.hid (Box.below (by repeat (first | with_reducible exact K5.out | with_reducible apply Box.drewN | with_reducible apply Box.drew | (with_reducible refine Box.newAt ?_ ?_ <;> first | (simp; done) | rfl) | with_reducible apply Box.alloc)) b)
      have K9 : Hid (Box _ (ub.heap.size) (x)) := Lib.hid (Box.below (by repeat (first | with_reducible exact K9.out | with_reducible apply Box.drewN | with_reducible apply Box.drew | (with_reducible refine Box.newAt ?_ ?_ <;> first | (simp; done) | rfl) | with_reducible apply Box.alloc)) b)
      have K10 : Hid (Box _ (ub.heap.size + 1) (y)) := Lib.hid (Box.below (by repeat (first | with_reducible exact K10.out | with_reducible apply Box.drewN | with_reducible apply Box.drew | (with_reducible refine Box.newAt ?_ ?_ <;> first | (simp; done) | rfl) | with_reducible apply Box.alloc)) b)
      have K11 : Hid (Box _ (ub.heap.size + 1 + 1) (z)) := Lib.hid (Box.below (by repeat (first | with_reducible exact K11.out | with_reducible apply Box.drewN | with_reducible apply Box.drew | (with_reducible refine Box.newAt ?_ ?_ <;> first | (simp; done) | rfl) | with_reducible apply Box.alloc)) b)
      have K29 : Hid (Box _ (w17.heap.size) (at_)) := Lib.hid (Box.below (by repeat (first | with_reducible exact K29.out | with_reducible apply Box.drewN | with_reducible apply Box.drew | (with_reducible refine Box.newAt ?_ ?_ <;> first | (simp; done) | rfl) | with_reducible apply Box.alloc)) b)
      try clear k3a k3b k3c k3d k3z
      have k3z := K3.out.lt
      obtain ⟨k3a, k3b, k3c, k3d⟩ := K3.out.cell
      try clear k4a k4b k4c k4d k4z
      have k4z := K4.out.lt
      obtain ⟨k4a, k4b, k4c, k4d⟩ := K4.out.cell
      try clear k5a k5b k5c k5d k5z
      have k5z := K5.out.lt
      obtain ⟨k5a, k5b, k5c, k5d⟩ := K5.out.cell
      try clear k9a k9b k9c k9d k9z
      have k9z := K9.out.lt
      obtain ⟨k9a, k9b, k9c, k9d⟩ := K9.out.cell
      try clear k10a k10b k10c k10d k10z
      have k10z := K10.out.lt
      obtain ⟨k10a, k10b, k10c, k10d⟩ := K10.out.cell
      try clear k11a k11b k11c k11d k11z
      have k11z := K11.out.lt
      obtain ⟨k11a, k11b, k11c, k11d⟩ := K11.out.cell
      try clear k29a k29b k29c k29d k29z
      have k29z := K29.out.lt
      obtain ⟨k29a, k29b, k29c, k29d⟩ := K29.out.cell
      clear b
      have Et := eq_run at_ at_ HTa.out HTa.out
      have Es := same_self at_
      go_upto_region 28 with fail
      obtain ⟨w20, ew, b⟩ : ∃ wOPN : World, wOPN = (w19.alloc at_.obj) ∧ Below ((w19.alloc at_.obj)).heap.size ((w19.alloc at_.obj)) wOPN := ⟨_, rfl, Below.refl _ _⟩
      rw [← ew]
      clear ew
      have Sw20 := Lib.hid b.size
      have HB := Lib.hid (chain0 (w := w) (by repeat (first | with_reducible exact Below.refl _ _ | with_reducible exact HB.out | with_reducible apply Below.drew | with_reducible apply bdN | with_reducible refine Below.alloc ?_ (by first | exact Nat.le_refl _ | with_reducible exact HB.out.size | omega | (simp; done) | (simp; omega) | (have := HB.out.size; simp at *; omega)) _ | with_reducible refine Below.setCell ?_ (by first | exact Nat.le_refl _ | with_reducible exact HB.out.size | omega | (simp; done) | (simp; omega) | (have := HB.out.size; simp at *; omega)) _)) b)
      have K3 : Hid (Box _ (ua.heap.size) (a)) := Lib.hid (Box.below (by repeat (first | with_reducible exact K3.out | with_reducible apply Box.drewN | with_reducible apply Box.drew | (with_reducible refine Box.newAt ?_ ?_ <;> first | (simp; done) | rfl) | with_reducible apply Box.alloc)) b)
      have K4 : Hid (Box _ (ua.heap.size + 1) (d)) := Lib.hid (Box.below (by repeat (first | with_reducible exact K4.out | with_reducible apply Box.drewN | with_reducible apply Box.drew | (with_reducible refine Box.newAt ?_ ?_ <;> first | (simp; done) | rfl) | with_reducible apply Box.alloc)) b)
      have K5 : Hid (Box _ (w2.heap.size) (t)) := Lib.hid (Box.below (by repeat (first | with_reducible exact K5.out | with_reducible apply Box.drewN | with_reducible apply Box.drew | (with_reducible refine Box.newAt ?_ ?_ <;> first | (simp; done) | rfl) | with_reducible apply Box.alloc)) b)
      have K9 : Hid (Box _ (ub.heap.size) (x)) := Lib.hid (Box.below (by repeat (first | with_reducible exact K9.out | with_reducible apply Box.drewN | with_reducible apply Box.drew | (with_reducible refine Box.newAt ?_ ?_ <;> first | (simp; done) | rfl) | with_reducible apply Box.alloc)) b)
      have K10 : Hid (Box _ (ub.heap.size + 1) (y)) := Lib.hid (Box.below (by repeat (first | with_reducible exact K10.out | with_reducible apply Box.drewN | with_reducible apply Box.drew | (with_reducible refine Box.newAt ?_ ?_ <;> first | (simp; done) | rfl) | with_reducible apply Box.alloc)) b)
      have K11 : Hid (Box _ (ub.heap.size + 1 + 1) (z)) := Lib.hid (Box.below (by repeat (first | with_reducible exact K11.out | with_reducible apply Box.drewN | with_reducible apply Box.drew | (with_reducible refine Box.newAt ?_ ?_ <;> first | (simp; done) | rfl) | with_reducible apply Box.alloc)) b)
      have K29 : Hid (Box _ (w17.heap.size) (at_)) := Lib.hid (Box.below (by repeat (first | with_reducible exact K29.out | with_reducible apply Box.drewN | with_reducible apply Box.drew | (with_reducible refine Box.newAt ?_ ?_ <;> first | (simp; done) | rfl) | with_reducible apply Box.alloc)) b)
      have K31 : Hid (Box _ (w19.heap.size) (at_)) := Lib.hid (Box.below (by repeat (first | with_reducible exact K31.out | with_reducible apply Box.drewN | with_reducible apply Box.drew | (with_reducible refine Box.newAt ?_ ?_ <;> first | (simp; done) | rfl) | with_reducible apply Box.alloc)) b)
      try clear k3a k3b k3c k3d k3z
      have k3z := K3.out.lt
      obtain ⟨k3a, k3b, k3c, k3d⟩ := K3.out.cell
      try clear k4a k4b k4c k4d k4z
      have k4z := K4.out.lt
      obtain ⟨k4a, k4b, k4c, k4d⟩ := K4.out.cell
      try clear k5a k5b k5c k5d k5z
      have k5z := K5.out.lt
      obtain ⟨k5a, k5b, k5c, k5d⟩ := K5.out.cell
      try clear k9a k9b k9c k9d k9z
      have k9z := K9.out.lt
      obtain ⟨k9a, k9b, k9c, k9d⟩ := K9.out.cell
      try clear k10a k10b k10c k10d k10z
      have k10z := K10.out.lt
      obtain ⟨k10a, k10b, k10c, k10d⟩ := K10.out.cell
      try clear k11a k11b k11c k11d k11z
      have k11z := K11.out.lt
      obtain ⟨k11a, k11b, k11c, k11d⟩ := K11.out.cell
      try clear k29a k29b k29c k29d k29z
      have k29z := K29.out.lt
      obtain ⟨k29a, k29b, k29c, k29d⟩ := K29.out.cell
      try clear k31a k31b k31c k31d k31z
      have k31z := K31.out.lt
      obtain ⟨k31a, k31b, k31c, k31d⟩ := K31.out.cell
      clear b
      go_upto_region 30 with fail
      clear Et Es k29a k29b k29c k29d k29z k31a k31b k31c k31d k31z
      have HI7 := Lib.hid (fun w => impl_text a w)
      have HS7 := Lib.hid (fun w => spec_text a w)
      have HX4 := Lib.hid (fun h => tx_four (x := a) h)
      obtain ⟨tx, htx⟩ : ∃ tx, (txtR a).1 = tx := ⟨_, rfl⟩
      obtain ⟨six, h6⟩ : ∃ six, (txtR a).2 = six := ⟨_, rfl⟩
      rw [htx, h6] at HI7 HS7 HX4
      clear htx h6
      go_wp2_with fail
      refine ((HI7.out _)).mono ?_
      rintro e w21 ⟨rfl, b⟩
      have Sw21 := Lib.hid b.size
      have HB := Lib.hid (chain0 (w := w) (by repeat (first | with_reducible exact Below.refl _ _ | with_reducible exact HB.out | with_reducible apply Below.drew | with_reducible apply bdN | with_reducible refine Below.alloc ?_ (by first | exact Nat.le_refl _ | with_reducible exact HB.out.size | omega | (simp; done) | (simp; omega) | (have := HB.out.size; simp at *; omega)) _ | with_reducible refine Below.setCell ?_ (by first | exact Nat.le_refl _ | with_reducible exact HB.out.size | omega | (simp; done) | (simp; omega) | (have := HB.out.size; simp at *; omega)) _)) b)
      have K3 : Hid (Box _ (ua.heap.size) (a)) := Lib.hid (Box.below (by repeat (first | with_reducible exact K3.out | with_reducible apply Box.drewN | with_reducible apply Box.drew | (with_reducible refine Box.newAt ?_ ?_ <;> first | (simp; done) | rfl) | with_reducible apply Box.alloc)) b)
      have K4 : Hid (Box _ (ua.heap.size + 1) (d)) := Lib.hid (Box.below (by repeat (first | with_reducible exact K4.out | with_reducible apply Box.drewN | with_reducible apply Box.drew | (with_reducible refine Box.newAt ?_ ?_ <;> first | (simp; done) | rfl) | with_reducible apply Box.alloc)) b)
      have K5 : Hid (Box _ (w2.heap.size) (t)) := Lib.hid (Box.below (by repeat (first | with_reducible exact K5.out | with_reducible apply Box.drewN | with_reducible apply Box.drew | (with_reducible refine Box.newAt ?_ ?_ <;> first | (simp; done) | rfl) | with_reducible apply Box.alloc)) b)
      have K9 : Hid (Box _ (ub.heap.size) (x)) := Lib.hid (Box.below (by repeat (first | with_reducible exact K9.out | with_reducible apply Box.drewN | with_reducible apply Box.drew | (with_reducible refine Box.newAt ?_ ?_ <;> first | (simp; done) | rfl) | with_reducible apply Box.alloc)) b)
      have K10 : Hid (Box _ (ub.heap.size + 1) (y)) := Lib.hid (Box.below (by repeat (first | with_reducible exact K10.out | with_reducible apply Box.drewN | with_reducible apply Box.drew | (with_reducible refine Box.newAt ?_ ?_ <;> first | (simp; done) | rfl) | with_reducible apply Box.alloc)) b)
      have K11 : Hid (Box _ (ub.heap.size + 1 + 1) (z)) := Lib.hid (Box.below (by repeat (first | with_reducible exact K11.out | with_reducible apply Box.drewN | with_reducible apply Box.drew | (with_reducible refine Box.newAt ?_ ?_ <;> first | (simp; done) | rfl) | with_reducible apply Box.alloc)) b)
      try clear k3a k3b k3c k3d k3z
      have k3z := K3.out.lt
      obtain ⟨k3a, k3b, k3c, k3d⟩ := K3.out.cell
      try clear k4a k4b k4c k4d k4z
      have k4z := K4.out.lt
      obtain ⟨k4a, k4b, k4c, k4d⟩ := K4.out.cell
      try clear k5a k5b k5c k5d k5z
      have k5z := K5.out.lt
      obtain ⟨k5a, k5b, k5c, k5d⟩ := K5.out.cell
      try clear k9a k9b k9c k9d k9z
      have k9z := K9.out.lt
      obtain ⟨k9a, k9b, k9c, k9d⟩ := K9.out.cell
      try clear k10a k10b k10c k10d k10z
      have k10z := K10.out.lt
      obtain ⟨k10a, k10b, k10c, k10d⟩ := K10.out.cell
      try clear k11a k11b k11c k11d k11z
      have k11z := K11.out.lt
      obtain ⟨k11a, k11b, k11c, k11d⟩ := K11.out.cell
      clear b
      go_wp2_with fail
      refine ((HS7.out _)).mono ?_
      rintro e w22 ⟨rfl, b⟩
      have Sw22 := Lib.hid b.size
      have HB := Lib.hid (chain0 (w := w) (by repeat (first | with_reducible exact Below.refl _ _ | with_reducible exact HB.out | with_reducible apply Below.drew | with_reducible apply bdN | with_reducible refine Below.alloc ?_ (by first | exact Nat.le_refl _ | with_reducible exact HB.out.size | omega | (simp; done) | (simp; omega) | (have := HB.out.size; simp at *; omega)) _ | with_reducible refine Below.setCell ?_ (by first | exact Nat.le_refl _ | with_reducible exact HB.out.size | omega | (simp; done) | (simp; omega) | (have := HB.out.size; simp at *; omega)) _)) b)
      have K3 : Hid (Box _ (ua.heap.size) (a)) := Lib.hid (Box.below (by repeat (first | with_reducible exact K3.out | with_reducible apply Box.drewN | with_reducible apply Box.drew | (with_reducible refine Box.newAt ?_ ?_ <;> first | (simp; done) | rfl) | with_reducible apply Box.alloc)) b)
      have K4 : Hid (Box _ (ua.heap.size + 1) (d)) := Lib.hid (Box.below (by repeat (first | with_reducible exact K4.out | with_reducible apply Box.drewN | with_reducible apply Box.drew | (with_reducible refine Box.newAt ?_ ?_ <;> first | (simp; done) | rfl) | with_reducible apply Box.alloc)) b)
      have K5 : Hid (Box _ (w2.heap.size) (t)) := Lib.hid (Box.below (by repeat (first | with_reducible exact K5.out | with_reducible apply Box.drewN | with_reducible apply Box.drew | (with_reducible refine Box.newAt ?_ ?_ <;> first | (simp; done) | rfl) | with_reducible apply Box.alloc)) b)
      have K9 : Hid (Box _ (ub.heap.size) (x)) := Lib.hid (Box.below (by repeat (first | with_reducible exact K9.out | with_reducible apply Box.drewN | with_reducible apply Box.drew | (with_reducible refine Box.newAt ?_ ?_ <;> first | (simp; done) | rfl) | with_reducible apply Box.alloc)) b)
      have K10 : Hid (Box _ (ub.heap.size + 1) (y)) := Lib.hid (Box.below (by repeat (first | with_reducible exact K10.out | with_reducible apply Box.drewN | with_reducible apply Box.drew | (with_reducible refine Box.newAt ?_ ?_ <;> first | (simp; done) | rfl) | with_reducible apply Box.alloc)) b)
      have K11 : Hid (Box _ (ub.heap.size + 1 + 1) (z)) := Lib.hid (Box.below (by repeat (first | with_reducible exact K11.out | with_reducible apply Box.drewN | with_reducible apply Box.drew | (with_reducible refine Box.newAt ?_ ?_ <;> first | (simp; done) | rfl) | with_reducible apply Box.alloc)) b)
      try clear k3a k3b k3c k3d k3z
      have k3z := K3.out.lt
      obtain ⟨k3a, k3b, k3c, k3d⟩ := K3.out.cell
      try clear k4a k4b k4c k4d k4z
      have k4z := K4.out.lt
      obtain ⟨k4a, k4b, k4c, k4d⟩ := K4.out.cell
      try clear k5a k5b k5c k5d k5z
      have k5z := K5.out.lt
      obtain ⟨k5a, k5b, k5c, k5d⟩ := K5.out.cell
      try clear k9a k9b k9c k9d k9z
      have k9z := K9.out.lt
      obtain ⟨k9a, k9b, k9c, k9d⟩ := K9.out.cell
      try clear k10a k10b k10c k10d k10z
      have k10z := K10.out.lt
      obtain ⟨k10a, k10b, k10c, k10d⟩ := K10.out.cell
      try clear k11a k11b k11c k11d k11z
      have k11z := K11.out.lt
      obtain ⟨k11a, k11b, k11c, k11d⟩ := K11.out.cell
      clear b
      go_upto_region 32 with fail
      go_cut [242] (fun s wx => s = .bool false ∧ wx = w22)
      case first =>
        cases six
        · as_aux_lemma => (go_wp2_with fail; go_meet; exact ⟨rfl, rfl⟩)
        · have h4 : ((tx.size : Int) != 4) = false := by have := HX4.out rfl; simp [this]
          as_aux_lemma => (go_wp2_with fail; go_meet; exact ⟨rfl, rfl⟩)
      case rest => as_aux_lemma =>
        obtain ⟨rfl, ew⟩ := hcut
        rw [ew]
        clear ew
        go_upto_if 243 with fail
        go_cut [] (fun wx => Hid (Below w.heap.size w wx) ∧ Hid (Box wx (ua.heap.size) a) ∧ Hid (Box wx (ua.heap.size + 1) d) ∧ Hid (Box wx (w2.heap.size) t) ∧ Hid (Box wx (ub.heap.size) x) ∧ Hid (Box wx (ub.heap.size + 1) y) ∧ Hid (Box wx (ub.heap.size + 1 + 1) z))
        case first =>
          clear HI1 HS1 HI2 HS2 HI3 HS3 HI4 HS4 HI5 HS5 HS6 HI7 HS7
          cases ao
          · as_aux_lemma =>
              go_wp2_with fail
              go_meet
              exact ⟨HB, K3, K4, K5, K9, K10, K11⟩
          · have HI8 : Hid (∀ w, Calls Try.prog 19 #[.int .i64 nb] w fun e w' => e = .returned (.tuple #[a.val, .bool true]) ∧ Below w.heap.size w w') := Lib.hid (fun w => by have h := HI6.out nb w; rw [HNb.out rfl] at h; exact h)
            have Ea := eq_run a a HAo.out HAo.out
            have Es := same_self a
            as_aux_lemma =>
              go_wp2_with fail
              refine ((HI8.out _)).mono ?_
              rintro e wa ⟨rfl, b⟩
              have Swa := Lib.hid b.size
              have HB := Lib.hid (chain0 (w := w) (by repeat (first | with_reducible exact Below.refl _ _ | with_reducible exact HB.out | with_reducible apply Below.drew | with_reducible apply bdN | with_reducible refine Below.alloc ?_ (by first | exact Nat.le_refl _ | with_reducible exact HB.out.size | omega | (simp; done) | (simp; omega) | (have := HB.out.size; simp at *; omega)) _ | with_reducible refine Below.setCell ?_ (by first | exact Nat.le_refl _ | with_reducible exact HB.out.size | omega | (simp; done) | (simp; omega) | (have := HB.out.size; simp at *; omega)) _)) b)
              have K3 : Hid (Box _ (ua.heap.size) (a)) := Lib.hid (Box.below (by repeat (first | with_reducible exact K3.out | with_reducible apply Box.drewN | with_reducible apply Box.drew | (with_reducible refine Box.newAt ?_ ?_ <;> first | (simp; done) | rfl) | with_reducible apply Box.alloc)) b)
              have K4 : Hid (Box _ (ua.heap.size + 1) (d)) := Lib.hid (Box.below (by repeat (first | with_reducible exact K4.out | with_reducible apply Box.drewN | with_reducible apply Box.drew | (with_reducible refine Box.newAt ?_ ?_ <;> first | (simp; done) | rfl) | with_reducible apply Box.alloc)) b)
              have K5 : Hid (Box _ (w2.heap.size) (t)) := Lib.hid (Box.below (by repeat (first | with_reducible exact K5.out | with_reducible apply Box.drewN | with_reducible apply Box.drew | (with_reducible refine Box.newAt ?_ ?_ <;> first | (simp; done) | rfl) | with_reducible apply Box.alloc)) b)
              have K9 : Hid (Box _ (ub.heap.size) (x)) := Lib.hid (Box.below (by repeat (first | with_reducible exact K9.out | with_reducible apply Box.drewN | with_reducible apply Box.drew | (with_reducible refine Box.newAt ?_ ?_ <;> first | (simp; done) | rfl) | with_reducible apply Box.alloc)) b)
              have K10 : Hid (Box _ (ub.heap.size + 1) (y)) := Lib.hid (Box.below (by repeat (first | with_reducible exact K10.out | with_reducible apply Box.drewN | with_reducible apply Box.drew | (with_reducible refine Box.newAt ?_ ?_ <;> first | (simp; done) | rfl) | with_reducible apply Box.alloc)) b)
              have K11 : Hid (Box _ (ub.heap.size + 1 + 1) (z)) := Lib.hid (Box.below (by repeat (first | with_reducible exact K11.out | with_reducible apply Box.drewN | with_reducible apply Box.drew | (with_reducible refine Box.newAt ?_ ?_ <;> first | (simp; done) | rfl) | with_reducible apply Box.alloc)) b)
              try clear k3a k3b k3c k3d k3z
              have k3z := K3.out.lt
              obtain ⟨k3a, k3b, k3c, k3d⟩ := K3.out.cell
              try clear k4a k4b k4c k4d k4z
              have k4z := K4.out.lt
              obtain ⟨k4a, k4b, k4c, k4d⟩ := K4.out.cell
              try clear k5a k5b k5c k5d k5z
              have k5z := K5.out.lt
              obtain ⟨k5a, k5b, k5c, k5d⟩ := K5.out.cell
              try clear k9a k9b k9c k9d k9z
              have k9z := K9.out.lt
              obtain ⟨k9a, k9b, k9c, k9d⟩ := K9.out.cell
              try clear k10a k10b k10c k10d k10z
              have k10z := K10.out.lt
              obtain ⟨k10a, k10b, k10c, k10d⟩ := K10.out.cell
              try clear k11a k11b k11c k11d k11z
              have k11z := K11.out.lt
              obtain ⟨k11a, k11b, k11c, k11d⟩ := K11.out.cell
              clear b
              go_upto_region 36 with fail
              obtain ⟨wb, ew, b⟩ : ∃ wOPN : World, wOPN = (wa.alloc a.obj) ∧ Below ((wa.alloc a.obj)).heap.size ((wa.alloc a.obj)) wOPN := ⟨_, rfl, Below.refl _ _⟩
              rw [← ew]
              clear ew
              have Swb := Lib.hid b.size
              have HB := Lib.hid (chain0 (w := w) (by repeat (first | with_reducible exact Below.refl _ _ | with_reducible exact HB.out | with_reducible apply Below.drew | with_reducible apply bdN | with_reducible refine Below.alloc ?_ (by first | exact Nat.le_refl _ | with_reducible exact HB.out.size | omega | (simp; done) | (simp; omega) | (have := HB.out.size; simp at *; omega)) _ | with_reducible refine Below.setCell ?_ (by first | exact Nat.le_refl _ | with_reducible exact HB.out.size | omega | (simp; done) | (simp; omega) | (have := HB.out.size; simp at *; omega)) _)) b)
              have K3 : Hid (Box _ (ua.heap.size) (a)) := Lib.hid (Box.below (by repeat (first | with_reducible exact K3.out | with_reducible apply Box.drewN | with_reducible apply Box.drew | (with_reducible refine Box.newAt ?_ ?_ <;> first | (simp; done) | rfl) | with_reducible apply Box.alloc)) b)
              have K4 : Hid (Box _ (ua.heap.size + 1) (d)) := Lib.hid (Box.below (by repeat (first | with_reducible exact K4.out | with_reducible apply Box.drewN | with_reducible apply Box.drew | (with_reducible refine Box.newAt ?_ ?_ <;> first | (simp; done) | rfl) | with_reducible apply Box.alloc)) b)
              have K5 : Hid (Box _ (w2.heap.size) (t)) := Lib.hid (Box.below (by repeat (first | with_reducible exact K5.out | with_reducible apply Box.drewN | with_reducible apply Box.drew | (with_reducible refine Box.newAt ?_ ?_ <;> first | (simp; done) | rfl) | with_reducible apply Box.alloc)) b)
              have K9 : Hid (Box _ (ub.heap.size) (x)) := Lib.hid (Box.below (by repeat (first | with_reducible exact K9.out | with_reducible apply Box.drewN | with_reducible apply Box.drew | (with_reducible refine Box.newAt ?_ ?_ <;> first | (simp; done) | rfl) | with_reducible apply Box.alloc)) b)
              have K10 : Hid (Box _ (ub.heap.size + 1) (y)) := Lib.hid (Box.below (by repeat (first | with_reducible exact K10.out | with_reducible apply Box.drewN | with_reducible apply Box.drew | (with_reducible refine Box.newAt ?_ ?_ <;> first | (simp; done) | rfl) | with_reducible apply Box.alloc)) b)
              have K11 : Hid (Box _ (ub.heap.size + 1 + 1) (z)) := Lib.hid (Box.below (by repeat (first | with_reducible exact K11.out | with_reducible apply Box.drewN | with_reducible apply Box.drew | (with_reducible refine Box.newAt ?_ ?_ <;> first | (simp; done) | rfl) | with_reducible apply Box.alloc)) b)
              have K37 : Hid (Box _ (wa.heap.size) (a)) := Lib.hid (Box.below (by repeat (first | with_reducible exact K37.out | with_reducible apply Box.drewN | with_reducible apply Box.drew | (with_reducible refine Box.newAt ?_ ?_ <;> first | (simp; done) | rfl) | with_reducible apply Box.alloc)) b)
              try clear k3a k3b k3c k3d k3z
              have k3z := K3.out.lt
              obtain ⟨k3a, k3b, k3c, k3d⟩ := K3.out.cell
              try clear k4a k4b k4c k4d k4z
              have k4z := K4.out.lt
              obtain ⟨k4a, k4b, k4c, k4d⟩ := K4.out.cell
              try clear k5a k5b k5c k5d k5z
              have k5z := K5.out.lt
              obtain ⟨k5a, k5b, k5c, k5d⟩ := K5.out.cell
              try clear k9a k9b k9c k9d k9z
              have k9z := K9.out.lt
              obtain ⟨k9a, k9b, k9c, k9d⟩ := K9.out.cell
              try clear k10a k10b k10c k10d k10z
              have k10z := K10.out.lt
              obtain ⟨k10a, k10b, k10c, k10d⟩ := K10.out.cell
              try clear k11a k11b k11c k11d k11z
              have k11z := K11.out.lt
              obtain ⟨k11a, k11b, k11c, k11d⟩ := K11.out.cell
              try clear k37a k37b k37c k37d k37z
              have k37z := K37.out.lt
              obtain ⟨k37a, k37b, k37c, k37d⟩ := K37.out.cell
              clear b
              go_wp2_with fail
              go_meet
              exact ⟨HB, K3, K4, K5, K9, K10, K11⟩
        case rest => as_aux_lemma =>
          clear k3a k3b k3c k3d k3z k4a k4b k4c k4d k4z k5a k5b k5c k5d k5z k9a k9b k9c k9d k9z k10a k10b k10c k10d k10z k11a k11b k11c k11d k11z HB K3 K4 K5 K9 K10 K11
          obtain ⟨HB, K3, K4, K5, K9, K10, K11⟩ := hcut
          obtain ⟨w23, ew, b⟩ : ∃ wOPN : World, wOPN = wc ∧ Below (wc).heap.size (wc) wOPN := ⟨_, rfl, Below.refl _ _⟩
          rw [← ew]
          clear ew
          have Sw23 := Lib.hid b.size
          have HB := Lib.hid (chain0 (w := w) (by repeat (first | with_reducible exact Below.refl _ _ | with_reducible exact HB.out | with_reducible apply Below.drew | with_reducible apply bdN | with_reducible refine Below.alloc ?_ (by first | exact Nat.le_refl _ | with_reducible exact HB.out.size | omega | (simp; done) | (simp; omega) | (have := HB.out.size; simp at *; omega)) _ | with_reducible refine Below.setCell ?_ (by first | exact Nat.le_refl _ | with_reducible exact HB.out.size | omega | (simp; done) | (simp; omega) | (have := HB.out.size; simp at *; omega)) _)) b)
          have K3 : Hid (Box _ (ua.heap.size) (a)) := Lib.hid (Box.below (by repeat (first | with_reducible exact K3.out | with_reducible apply Box.drewN | with_reducible apply Box.drew | (with_reducible refine Box.newAt ?_ ?_ <;> first | (simp; done) | rfl) | with_reducible apply Box.alloc)) b)
          have K4 : Hid (Box _ (ua.heap.size + 1) (d)) := Lib.hid (Box.below (by repeat (first | with_reducible exact K4.out | with_reducible apply Box.drewN | with_reducible apply Box.drew | (with_reducible refine Box.newAt ?_ ?_ <;> first | (simp; done) | rfl) | with_reducible apply Box.alloc)) b)
          have K5 : Hid (Box _ (w2.heap.size) (t)) := Lib.hid (Box.below (by repeat (first | with_reducible exact K5.out | with_reducible apply Box.drewN | with_reducible apply Box.drew | (with_reducible refine Box.newAt ?_ ?_ <;> first | (simp; done) | rfl) | with_reducible apply Box.alloc)) b)
          have K9 : Hid (Box _ (ub.heap.size) (x)) := Lib.hid (Box.below (by repeat (first | with_reducible exact K9.out | with_reducible apply Box.drewN | with_reducible apply Box.drew | (with_reducible refine Box.newAt ?_ ?_ <;> first | (simp; done) | rfl) | with_reducible apply Box.alloc)) b)
          have K10 : Hid (Box _ (ub.heap.size + 1) (y)) := Lib.hid (Box.below (by repeat (first | with_reducible exact K10.out | with_reducible apply Box.drewN | with_reducible apply Box.drew | (with_reducible refine Box.newAt ?_ ?_ <;> first | (simp; done) | rfl) | with_reducible apply Box.alloc)) b)
          have K11 : Hid (Box _ (ub.heap.size + 1 + 1) (z)) := Lib.hid (Box.below (by repeat (first | with_reducible exact K11.out | with_reducible apply Box.drewN | with_reducible apply Box.drew | (with_reducible refine Box.newAt ?_ ?_ <;> first | (simp; done) | rfl) | with_reducible apply Box.alloc)) b)
          try clear k3a k3b k3c k3d k3z
          have k3z := K3.out.lt
          obtain ⟨k3a, k3b, k3c, k3d⟩ := K3.out.cell
          try clear k4a k4b k4c k4d k4z
          have k4z := K4.out.lt
          obtain ⟨k4a, k4b, k4c, k4d⟩ := K4.out.cell
          try clear k5a k5b k5c k5d k5z
          have k5z := K5.out.lt
          obtain ⟨k5a, k5b, k5c, k5d⟩ := K5.out.cell
          try clear k9a k9b k9c k9d k9z
          have k9z := K9.out.lt
          obtain ⟨k9a, k9b, k9c, k9d⟩ := K9.out.cell
          try clear k10a k10b k10c k10d k10z
          have k10z := K10.out.lt
          obtain ⟨k10a, k10b, k10c, k10d⟩ := K10.out.cell
          try clear k11a k11b k11c k11d k11z
          have k11z := K11.out.lt
          obtain ⟨k11a, k11b, k11c, k11d⟩ := K11.out.cell
          clear b
          go_upto_if 256 with fail
          go_cut [] (fun wx => Hid (Below w.heap.size w wx) ∧ Hid (Box wx (ua.heap.size) a) ∧ Hid (Box wx (ua.heap.size + 1) d) ∧ Hid (Box wx (w2.heap.size) t) ∧ Hid (Box wx (ub.heap.size) x) ∧ Hid (Box wx (ub.heap.size + 1) y) ∧ Hid (Box wx (ub.heap.size + 1 + 1) z))
          case first =>
            clear HI1 HS1 HI2 HS2 HI3 HS3 HI4 HS4 HI5 HS5 HS6 HI7 HS7
            cases two
            · as_aux_lemma =>
                go_wp2_with fail
                go_meet
                exact ⟨HB, K3, K4, K5, K9, K10, K11⟩
            · have HI8 : Hid (∀ w, Calls Try.prog 13 #[y.val, z.val] w fun e w' => e = .returned (.tuple #[.int .i64 kd, .bool true]) ∧ Below w.heap.size w w') := Lib.hid (fun w => by have h := impl_dif y z w; rw [HKd.out rfl] at h; exact h)
              as_aux_lemma =>
                go_wp2_with fail
                refine ((HI8.out _)).mono ?_
                rintro e wa ⟨rfl, b⟩
                have Swa := Lib.hid b.size
                have HB := Lib.hid (chain0 (w := w) (by repeat (first | with_reducible exact Below.refl _ _ | with_reducible exact HB.out | with_reducible apply Below.drew | with_reducible apply bdN | with_reducible refine Below.alloc ?_ (by first | exact Nat.le_refl _ | with_reducible exact HB.out.size | omega | (simp; done) | (simp; omega) | (have := HB.out.size; simp at *; omega)) _ | with_reducible refine Below.setCell ?_ (by first | exact Nat.le_refl _ | with_reducible exact HB.out.size | omega | (simp; done) | (simp; omega) | (have := HB.out.size; simp at *; omega)) _)) b)
                have K3 : Hid (Box _ (ua.heap.size) (a)) := Lib.hid (Box.below (by repeat (first | with_reducible exact K3.out | with_reducible apply Box.drewN | with_reducible apply Box.drew | (with_reducible refine Box.newAt ?_ ?_ <;> first | (simp; done) | rfl) | with_reducible apply Box.alloc)) b)
                have K4 : Hid (Box _ (ua.heap.size + 1) (d)) := Lib.hid (Box.below (by repeat (first | with_reducible exact K4.out | with_reducible apply Box.drewN | with_reducible apply Box.drew | (with_reducible refine Box.newAt ?_ ?_ <;> first | (simp; done) | rfl) | with_reducible apply Box.alloc)) b)
                have K5 : Hid (Box _ (w2.heap.size) (t)) := Lib.hid (Box.below (by repeat (first | with_reducible exact K5.out | with_reducible apply Box.drewN | with_reducible apply Box.drew | (with_reducible refine Box.newAt ?_ ?_ <;> first | (simp; done) | rfl) | with_reducible apply Box.alloc)) b)
                have K9 : Hid (Box _ (ub.heap.size) (x)) := Lib.hid (Box.below (by repeat (first | with_reducible exact K9.out | with_reducible apply Box.drewN | with_reducible apply Box.drew | (with_reducible refine Box.newAt ?_ ?_ <;> first | (simp; done) | rfl) | with_reducible apply Box.alloc)) b)
                have K10 : Hid (Box _ (ub.heap.size + 1) (y)) := Lib.hid (Box.below (by repeat (first | with_reducible exact K10.out | with_reducible apply Box.drewN | with_reducible apply Box.drew | (with_reducible refine Box.newAt ?_ ?_ <;> first | (simp; done) | rfl) | with_reducible apply Box.alloc)) b)
                have K11 : Hid (Box _ (ub.heap.size + 1 + 1) (z)) := Lib.hid (Box.below (by repeat (first | with_reducible exact K11.out | with_reducible apply Box.drewN | with_reducible apply Box.drew | (with_reducible refine Box.newAt ?_ ?_ <;> first | (simp; done) | rfl) | with_reducible apply Box.alloc)) b)
                try clear k3a k3b k3c k3d k3z
                have k3z := K3.out.lt
                obtain ⟨k3a, k3b, k3c, k3d⟩ := K3.out.cell
                try clear k4a k4b k4c k4d k4z
                have k4z := K4.out.lt
                obtain ⟨k4a, k4b, k4c, k4d⟩ := K4.out.cell
                try clear k5a k5b k5c k5d k5z
                have k5z := K5.out.lt
                obtain ⟨k5a, k5b, k5c, k5d⟩ := K5.out.cell
                try clear k9a k9b k9c k9d k9z
                have k9z := K9.out.lt
                obtain ⟨k9a, k9b, k9c, k9d⟩ := K9.out.cell
                try clear k10a k10b k10c k10d k10z
                have k10z := K10.out.lt
                obtain ⟨k10a, k10b, k10c, k10d⟩ := K10.out.cell
                try clear k11a k11b k11c k11d k11z
                have k11z := K11.out.lt
                obtain ⟨k11a, k11b, k11c, k11d⟩ := K11.out.cell
                clear b
                go_wp2_with fail
                go_meet
                exact ⟨HB, K3, K4, K5, K9, K10, K11⟩
          case rest => as_aux_lemma =>
            clear k3a k3b k3c k3d k3z k4a k4b k4c k4d k4z k5a k5b k5c k5d k5z k9a k9b k9c k9d k9z k10a k10b k10c k10d k10z k11a k11b k11c k11d k11z HB K3 K4 K5 K9 K10 K11
            obtain ⟨HB, K3, K4, K5, K9, K10, K11⟩ := hcut
            obtain ⟨w24, ew, b⟩ : ∃ wOPN : World, wOPN = wc ∧ Below (wc).heap.size (wc) wOPN := ⟨_, rfl, Below.refl _ _⟩
            rw [← ew]
            clear ew
            have Sw24 := Lib.hid b.size
            have HB := Lib.hid (chain0 (w := w) (by repeat (first | with_reducible exact Below.refl _ _ | with_reducible exact HB.out | with_reducible apply Below.drew | with_reducible apply bdN | with_reducible refine Below.alloc ?_ (by first | exact Nat.le_refl _ | with_reducible exact HB.out.size | omega | (simp; done) | (simp; omega) | (have := HB.out.size; simp at *; omega)) _ | with_reducible refine Below.setCell ?_ (by first | exact Nat.le_refl _ | with_reducible exact HB.out.size | omega | (simp; done) | (simp; omega) | (have := HB.out.size; simp at *; omega)) _)) b)
            have K3 : Hid (Box _ (ua.heap.size) (a)) := Lib.hid (Box.below (by repeat (first | with_reducible exact K3.out | with_reducible apply Box.drewN | with_reducible apply Box.drew | (with_reducible refine Box.newAt ?_ ?_ <;> first | (simp; done) | rfl) | with_reducible apply Box.alloc)) b)
            have K4 : Hid (Box _ (ua.heap.size + 1) (d)) := Lib.hid (Box.below (by repeat (first | with_reducible exact K4.out | with_reducible apply Box.drewN | with_reducible apply Box.drew | (with_reducible refine Box.newAt ?_ ?_ <;> first | (simp; done) | rfl) | with_reducible apply Box.alloc)) b)
            have K5 : Hid (Box _ (w2.heap.size) (t)) := Lib.hid (Box.below (by repeat (first | with_reducible exact K5.out | with_reducible apply Box.drewN | with_reducible apply Box.drew | (with_reducible refine Box.newAt ?_ ?_ <;> first | (simp; done) | rfl) | with_reducible apply Box.alloc)) b)
            have K9 : Hid (Box _ (ub.heap.size) (x)) := Lib.hid (Box.below (by repeat (first | with_reducible exact K9.out | with_reducible apply Box.drewN | with_reducible apply Box.drew | (with_reducible refine Box.newAt ?_ ?_ <;> first | (simp; done) | rfl) | with_reducible apply Box.alloc)) b)
            have K10 : Hid (Box _ (ub.heap.size + 1) (y)) := Lib.hid (Box.below (by repeat (first | with_reducible exact K10.out | with_reducible apply Box.drewN | with_reducible apply Box.drew | (with_reducible refine Box.newAt ?_ ?_ <;> first | (simp; done) | rfl) | with_reducible apply Box.alloc)) b)
            have K11 : Hid (Box _ (ub.heap.size + 1 + 1) (z)) := Lib.hid (Box.below (by repeat (first | with_reducible exact K11.out | with_reducible apply Box.drewN | with_reducible apply Box.drew | (with_reducible refine Box.newAt ?_ ?_ <;> first | (simp; done) | rfl) | with_reducible apply Box.alloc)) b)
            try clear k3a k3b k3c k3d k3z
            have k3z := K3.out.lt
            obtain ⟨k3a, k3b, k3c, k3d⟩ := K3.out.cell
            try clear k4a k4b k4c k4d k4z
            have k4z := K4.out.lt
            obtain ⟨k4a, k4b, k4c, k4d⟩ := K4.out.cell
            try clear k5a k5b k5c k5d k5z
            have k5z := K5.out.lt
            obtain ⟨k5a, k5b, k5c, k5d⟩ := K5.out.cell
            try clear k9a k9b k9c k9d k9z
            have k9z := K9.out.lt
            obtain ⟨k9a, k9b, k9c, k9d⟩ := K9.out.cell
            try clear k10a k10b k10c k10d k10z
            have k10z := K10.out.lt
            obtain ⟨k10a, k10b, k10c, k10d⟩ := K10.out.cell
            try clear k11a k11b k11c k11d k11z
            have k11z := K11.out.lt
            obtain ⟨k11a, k11b, k11c, k11d⟩ := K11.out.cell
            clear b
            go_upto_region 42 with fail
            go_cut [285] (fun s wx => s = .bool (one && !(same x y) && !(same x z) && !(same y z)) ∧ wx = w24)
            case first =>
              clear HI1 HS1 HI2 HS2 HI3 HS3 HI4 HS4 HI5 HS5 HS6 HI7 HS7
              cases one
              · as_aux_lemma =>
                  go_wp2_with fail
                  go_meet
                  exact ⟨rfl, rfl⟩
              · obtain ⟨xo, yo, zo⟩ := HLo.out rfl
                have E1 := eq_run x y xo yo
                have E2 := eq_run x z xo zo
                have E3 := eq_run y z yo zo
                clear xo yo zo
                obtain ⟨b1, hb1⟩ : ∃ b1, same x y = b1 := ⟨_, rfl⟩
                obtain ⟨b2, hb2⟩ : ∃ b2, same x z = b2 := ⟨_, rfl⟩
                obtain ⟨b3, hb3⟩ : ∃ b3, same y z = b3 := ⟨_, rfl⟩
                rw [hb1] at E1
                rw [hb2] at E2
                rw [hb3] at E3
                have Hb1 := Lib.hid hb1
                have Hb2 := Lib.hid hb2
                have Hb3 := Lib.hid hb3
                clear hb1 hb2 hb3
                cases b1
                · cases b2
                  · as_aux_lemma =>
                      go_wp2_with fail
                      go_meet
                      exact ⟨by rw [Hb1.out, Hb2.out, Hb3.out]; simp, rfl⟩
                  · as_aux_lemma =>
                      go_wp2_with fail
                      go_meet
                      exact ⟨by rw [Hb1.out, Hb2.out]; simp, rfl⟩
                · as_aux_lemma =>
                    go_wp2_with fail
                    go_meet
                    exact ⟨by rw [Hb1.out]; simp, rfl⟩
            case rest => as_aux_lemma =>
              obtain ⟨rfl, ew⟩ := hcut
              rw [ew]
              clear ew
              go_upto_if 285 with fail
              go_cut [] (fun wx => Hid (Below w.heap.size w wx) ∧ Hid (Box wx (ua.heap.size) a) ∧ Hid (Box wx (ua.heap.size + 1) d) ∧ Hid (Box wx (w2.heap.size) t))
              case first =>
                clear HI1 HS1 HI2 HS2 HI3 HS3 HI4 HS4 HI5 HS5 HS6 HI7 HS7
                obtain ⟨dv, hdv⟩ : ∃ dv, (one && !(same x y) && !(same x z) && !(same y z)) = dv := ⟨_, rfl⟩
                rw [hdv]
                cases dv
                · clear hdv
                  as_aux_lemma =>
                    go_wp2_with fail
                    go_meet
                    exact ⟨HB, K3, K4, K5⟩
                · have h5 : one = true ∧ same x y = false ∧ same x z = false ∧ same y z = false := by simpa [and_assoc] using hdv
                  clear hdv
                  obtain ⟨h1, h2, -, -⟩ := h5
                  have h6 := HLo.out h1
                  have HZ := Lib.hid (HKz.out h1 h2)
                  have HCx := Lib.hid (Cd.bd h6.1)
                  have HCy := Lib.hid (Cd.bd h6.2.1)
                  have HCz := Lib.hid (Cd.bd h6.2.2)
                  clear h1 h2 h6
                  as_aux_lemma =>
                    go_wp2_with fail
                    go_loopw [41, 42] (fun zv iv wr => ∃ k : Nat, k ≤ 4 ∧ iv = .int .i64 k ∧ zv = .bool (zk x y z k) ∧ Hid (Below w24.heap.size w24 wr)) (fun _ iv _ => 4 - (intOf iv).toNat)
                    case atStart => exact ⟨0, by omega, rfl, rfl, Lib.hid (Below.refl _ _)⟩
                    case round =>
                      clear k3a k3b k3c k3d k3z k4a k4b k4c k4d k4z k5a k5b k5c k5d k5z k9a k9b k9c k9d k9z k10a k10b k10c k10d k10z k11a k11b k11c k11d k11z
                      obtain ⟨k, hk, rfl, rfl, HBl⟩ := hrel
                      have K9 := Lib.hid (K9.out.below HBl.out)
                      have K10 := Lib.hid (K10.out.below HBl.out)
                      have K11 := Lib.hid (K11.out.below HBl.out)
                      by_cases hlt : k < 4
                      · obtain ⟨k9a, k9b, k9c, k9d⟩ := K9.out.cell
                        obtain ⟨k10a, k10b, k10c, k10d⟩ := K10.out.cell
                        obtain ⟨k11a, k11b, k11c, k11d⟩ := K11.out.cell
                        rcases (show k = 0 ∨ k = 1 ∨ k = 2 ∨ k = 3 by omega) with rfl | rfl | rfl | rfl
                        · have b1 : (0 : Int) ≤ x.a ∧ x.a ≤ 2 := by have := HCx.out; omega
                          have b2 : (0 : Int) ≤ y.a ∧ y.a ≤ 2 := by have := HCy.out; omega
                          have b3 : (0 : Int) ≤ z.a ∧ z.a ≤ 2 := by have := HCz.out; omega
                          have hsum : IntKind.i64.wrap (x.a + y.a) = x.a + y.a := IntWalk.i64_in _ (by omega)
                          have hsum2 : IntKind.i64.wrap (x.a + y.a + z.a) = x.a + y.a + z.a := IntWalk.i64_in _ (by omega)
                          have hrem : Int.tmod (x.a + y.a + z.a) 3 = (x.a + y.a + z.a) % 3 := Int.tmod_eq_emod_of_nonneg (by omega)
                          have HNx : Hid (∀ b, zk x y z 0 = b → zk x y z 1 = (b && decide ((x.a + y.a + z.a) % 3 = 0))) := Lib.hid (fun b h => by rw [← h]; rfl)
                          obtain ⟨b0, hb0⟩ : ∃ b0, zk x y z 0 = b0 := ⟨_, rfl⟩
                          have HN2 := Lib.hid (HNx.out b0 hb0)
                          rw [hb0]
                          clear hb0 HNx
                          cases b0
                          · have HN3 := Lib.hid (HN2.out.trans (Bool.false_and _))
                            as_aux_lemma =>
                              go_upto_region 47 with fail
                              go_quiet (fail)
                              have HBj := Lib.hid (HBl.out.trans (by repeat (first | with_reducible exact Below.refl _ _ | with_reducible apply bdN | with_reducible apply Below.drew) : Below w24.heap.size wr (wr.drewN nq)))
                              go_wp2_with fail
                              go_roundw
                              case rel => exact ⟨1, by omega, by go_num, by rw [HN3.out], HBj⟩
                              case measure => simp [intOf]
                          · have HN3 := Lib.hid (HN2.out.trans (Bool.true_and _))
                            as_aux_lemma =>
                              go_upto_region 47 with fail
                              go_quiet (fail)
                              have HBj := Lib.hid (HBl.out.trans (by repeat (first | with_reducible exact Below.refl _ _ | with_reducible apply bdN | with_reducible apply Below.drew) : Below w24.heap.size wr (wr.drewN nq)))
                              go_wp2_with fail
                              go_roundw
                              case rel => exact ⟨1, by omega, by go_num, by rw [HN3.out, beq_dec], HBj⟩
                              case measure => simp [intOf]
                        · have b1 : (0 : Int) ≤ x.b ∧ x.b ≤ 2 := by have := HCx.out; omega
                          have b2 : (0 : Int) ≤ y.b ∧ y.b ≤ 2 := by have := HCy.out; omega
                          have b3 : (0 : Int) ≤ z.b ∧ z.b ≤ 2 := by have := HCz.out; omega
                          have hsum : IntKind.i64.wrap (x.b + y.b) = x.b + y.b := IntWalk.i64_in _ (by omega)
                          have hsum2 : IntKind.i64.wrap (x.b + y.b + z.b) = x.b + y.b + z.b := IntWalk.i64_in _ (by omega)
                          have hrem : Int.tmod (x.b + y.b + z.b) 3 = (x.b + y.b + z.b) % 3 := Int.tmod_eq_emod_of_nonneg (by omega)
                          have HNx : Hid (∀ b, zk x y z 1 = b → zk x y z 2 = (b && decide ((x.b + y.b + z.b) % 3 = 0))) := Lib.hid (fun b h => by rw [← h]; rfl)
                          obtain ⟨b0, hb0⟩ : ∃ b0, zk x y z 1 = b0 := ⟨_, rfl⟩
                          have HN2 := Lib.hid (HNx.out b0 hb0)
                          rw [hb0]
                          clear hb0 HNx
                          cases b0
                          · have HN3 := Lib.hid (HN2.out.trans (Bool.false_and _))
                            as_aux_lemma =>
                              go_upto_region 47 with fail
                              go_quiet (fail)
                              have HBj := Lib.hid (HBl.out.trans (by repeat (first | with_reducible exact Below.refl _ _ | with_reducible apply bdN | with_reducible apply Below.drew) : Below w24.heap.size wr (wr.drewN nq)))
                              go_wp2_with fail
                              go_roundw
                              case rel => exact ⟨2, by omega, by go_num, by rw [HN3.out], HBj⟩
                              case measure => simp [intOf]
                          · have HN3 := Lib.hid (HN2.out.trans (Bool.true_and _))
                            as_aux_lemma =>
                              go_upto_region 47 with fail
                              go_quiet (fail)
                              have HBj := Lib.hid (HBl.out.trans (by repeat (first | with_reducible exact Below.refl _ _ | with_reducible apply bdN | with_reducible apply Below.drew) : Below w24.heap.size wr (wr.drewN nq)))
                              go_wp2_with fail
                              go_roundw
                              case rel => exact ⟨2, by omega, by go_num, by rw [HN3.out, beq_dec], HBj⟩
                              case measure => simp [intOf]
                        · have b1 : (0 : Int) ≤ x.c ∧ x.c ≤ 2 := by have := HCx.out; omega
                          have b2 : (0 : Int) ≤ y.c ∧ y.c ≤ 2 := by have := HCy.out; omega
                          have b3 : (0 : Int) ≤ z.c ∧ z.c ≤ 2 := by have := HCz.out; omega
                          have hsum : IntKind.i64.wrap (x.c + y.c) = x.c + y.c := IntWalk.i64_in _ (by omega)
                          have hsum2 : IntKind.i64.wrap (x.c + y.c + z.c) = x.c + y.c + z.c := IntWalk.i64_in _ (by omega)
                          have hrem : Int.tmod (x.c + y.c + z.c) 3 = (x.c + y.c + z.c) % 3 := Int.tmod_eq_emod_of_nonneg (by omega)
                          have HNx : Hid (∀ b, zk x y z 2 = b → zk x y z 3 = (b && decide ((x.c + y.c + z.c) % 3 = 0))) := Lib.hid (fun b h => by rw [← h]; rfl)
                          obtain ⟨b0, hb0⟩ : ∃ b0, zk x y z 2 = b0 := ⟨_, rfl⟩
                          have HN2 := Lib.hid (HNx.out b0 hb0)
                          rw [hb0]
                          clear hb0 HNx
                          cases b0
                          · have HN3 := Lib.hid (HN2.out.trans (Bool.false_and _))
                            as_aux_lemma =>
                              go_upto_region 47 with fail
                              go_quiet (fail)
                              have HBj := Lib.hid (HBl.out.trans (by repeat (first | with_reducible exact Below.refl _ _ | with_reducible apply bdN | with_reducible apply Below.drew) : Below w24.heap.size wr (wr.drewN nq)))
                              go_wp2_with fail
                              go_roundw
                              case rel => exact ⟨3, by omega, by go_num, by rw [HN3.out], HBj⟩
                              case measure => simp [intOf]
                          · have HN3 := Lib.hid (HN2.out.trans (Bool.true_and _))
                            as_aux_lemma =>
                              go_upto_region 47 with fail
                              go_quiet (fail)
                              have HBj := Lib.hid (HBl.out.trans (by repeat (first | with_reducible exact Below.refl _ _ | with_reducible apply bdN | with_reducible apply Below.drew) : Below w24.heap.size wr (wr.drewN nq)))
                              go_wp2_with fail
                              go_roundw
                              case rel => exact ⟨3, by omega, by go_num, by rw [HN3.out, beq_dec], HBj⟩
                              case measure => simp [intOf]
                        · have b1 : (0 : Int) ≤ x.d ∧ x.d ≤ 2 := by have := HCx.out; omega
                          have b2 : (0 : Int) ≤ y.d ∧ y.d ≤ 2 := by have := HCy.out; omega
                          have b3 : (0 : Int) ≤ z.d ∧ z.d ≤ 2 := by have := HCz.out; omega
                          have hsum : IntKind.i64.wrap (x.d + y.d) = x.d + y.d := IntWalk.i64_in _ (by omega)
                          have hsum2 : IntKind.i64.wrap (x.d + y.d + z.d) = x.d + y.d + z.d := IntWalk.i64_in _ (by omega)
                          have hrem : Int.tmod (x.d + y.d + z.d) 3 = (x.d + y.d + z.d) % 3 := Int.tmod_eq_emod_of_nonneg (by omega)
                          have HNx : Hid (∀ b, zk x y z 3 = b → zk x y z 4 = (b && decide ((x.d + y.d + z.d) % 3 = 0))) := Lib.hid (fun b h => by rw [← h]; rfl)
                          obtain ⟨b0, hb0⟩ : ∃ b0, zk x y z 3 = b0 := ⟨_, rfl⟩
                          have HN2 := Lib.hid (HNx.out b0 hb0)
                          rw [hb0]
                          clear hb0 HNx
                          cases b0
                          · have HN3 := Lib.hid (HN2.out.trans (Bool.false_and _))
                            as_aux_lemma =>
                              go_upto_region 47 with fail
                              go_quiet (fail)
                              have HBj := Lib.hid (HBl.out.trans (by repeat (first | with_reducible exact Below.refl _ _ | with_reducible apply bdN | with_reducible apply Below.drew) : Below w24.heap.size wr (wr.drewN nq)))
                              go_wp2_with fail
                              go_roundw
                              case rel => exact ⟨4, by omega, by go_num, by rw [HN3.out], HBj⟩
                              case measure => simp [intOf]
                          · have HN3 := Lib.hid (HN2.out.trans (Bool.true_and _))
                            as_aux_lemma =>
                              go_upto_region 47 with fail
                              go_quiet (fail)
                              have HBj := Lib.hid (HBl.out.trans (by repeat (first | with_reducible exact Below.refl _ _ | with_reducible apply bdN | with_reducible apply Below.drew) : Below w24.heap.size wr (wr.drewN nq)))
                              go_wp2_with fail
                              go_roundw
                              case rel => exact ⟨4, by omega, by go_num, by rw [HN3.out, beq_dec], HBj⟩
                              case measure => simp [intOf]
                      · obtain rfl : k = 4 := by omega
                        have hz : zk x y z 4 = ln := HZ.out
                        rw [hz]
                        clear hz
                        as_aux_lemma =>
                          go_wp2_with fail
                          go_meet
                          exact ⟨Lib.hid (HB.out.trans (HBl.out.mono HB.out.size)), Lib.hid (K3.out.below HBl.out), Lib.hid (K4.out.below HBl.out), Lib.hid (K5.out.below HBl.out)⟩
              case rest => as_aux_lemma =>
                clear k3a k3b k3c k3d k3z k4a k4b k4c k4d k4z k5a k5b k5c k5d k5z k9a k9b k9c k9d k9z k10a k10b k10c k10d k10z k11a k11b k11c k11d k11z HB K3 K4 K5 K9 K10 K11
                obtain ⟨HB, K3, K4, K5⟩ := hcut
                obtain ⟨w25, ew, b⟩ : ∃ wOPN : World, wOPN = wc ∧ Below (wc).heap.size (wc) wOPN := ⟨_, rfl, Below.refl _ _⟩
                rw [← ew]
                clear ew
                have Sw25 := Lib.hid b.size
                have HB := Lib.hid (chain0 (w := w) (by repeat (first | with_reducible exact Below.refl _ _ | with_reducible exact HB.out | with_reducible apply Below.drew | with_reducible apply bdN | with_reducible refine Below.alloc ?_ (by first | exact Nat.le_refl _ | with_reducible exact HB.out.size | omega | (simp; done) | (simp; omega) | (have := HB.out.size; simp at *; omega)) _ | with_reducible refine Below.setCell ?_ (by first | exact Nat.le_refl _ | with_reducible exact HB.out.size | omega | (simp; done) | (simp; omega) | (have := HB.out.size; simp at *; omega)) _)) b)
                have K3 : Hid (Box _ (ua.heap.size) (a)) := Lib.hid (Box.below (by repeat (first | with_reducible exact K3.out | with_reducible apply Box.drewN | with_reducible apply Box.drew | (with_reducible refine Box.newAt ?_ ?_ <;> first | (simp; done) | rfl) | with_reducible apply Box.alloc)) b)
                have K4 : Hid (Box _ (ua.heap.size + 1) (d)) := Lib.hid (Box.below (by repeat (first | with_reducible exact K4.out | with_reducible apply Box.drewN | with_reducible apply Box.drew | (with_reducible refine Box.newAt ?_ ?_ <;> first | (simp; done) | rfl) | with_reducible apply Box.alloc)) b)
                have K5 : Hid (Box _ (w2.heap.size) (t)) := Lib.hid (Box.below (by repeat (first | with_reducible exact K5.out | with_reducible apply Box.drewN | with_reducible apply Box.drew | (with_reducible refine Box.newAt ?_ ?_ <;> first | (simp; done) | rfl) | with_reducible apply Box.alloc)) b)
                try clear k3a k3b k3c k3d k3z
                have k3z := K3.out.lt
                obtain ⟨k3a, k3b, k3c, k3d⟩ := K3.out.cell
                try clear k4a k4b k4c k4d k4z
                have k4z := K4.out.lt
                obtain ⟨k4a, k4b, k4c, k4d⟩ := K4.out.cell
                try clear k5a k5b k5c k5d k5z
                have k5z := K5.out.lt
                obtain ⟨k5a, k5b, k5c, k5d⟩ := K5.out.cell
                clear b
                cases ok
                · as_aux_lemma =>
                    go_wp2_with fail
                    go_ret
                    exact ⟨rfl, by repeat (first | with_reducible exact Below.refl _ _ | with_reducible exact HB.out | with_reducible apply Below.drew | with_reducible apply bdN | with_reducible refine Below.alloc ?_ (by first | exact Nat.le_refl _ | with_reducible exact HB.out.size | omega | (simp; done) | (simp; omega) | (have := HB.out.size; simp at *; omega)) _ | with_reducible refine Below.setCell ?_ (by first | exact Nat.le_refl _ | with_reducible exact HB.out.size | omega | (simp; done) | (simp; omega) | (have := HB.out.size; simp at *; omega)) _)⟩
                · obtain ⟨e1, e2, e3, e4, e5⟩ := HTe.out rfl
                  have H9 : Hid (∀ w, Calls Try.prog 6 #[d.val, a.val] w fun e w' => e = .returned (.tuple #[t.val, .bool true]) ∧ Below w.heap.size w w') := Lib.hid (fun w => by have h := impl_third d a w; rw [e1] at h; exact h)
                  have H10 : Hid (∀ w, Calls Try.prog 6 #[a.val, t.val] w fun e w' => e = .returned (.tuple #[d.val, .bool true]) ∧ Below w.heap.size w w') := Lib.hid (fun w => by have h := impl_third a t w; rw [e2] at h; exact h)
                  have H11 : Hid (∀ w, Calls Try.prog 9 #[t.val, d.val, a.val] w fun e w' => e = .returned (.tuple #[.bool true, .bool true]) ∧ Below w.heap.size w w') := Lib.hid (fun w => by have h := impl_line t d a w; rw [e3] at h; exact h)
                  have hoks : a.ok = true ∧ d.ok = true := by
                    have h1 := HTf.out
                    have h2 := HFd.out
                    rw [h2] at h1
                    have h3 := h1.symm
                    simp only [Bool.and_eq_true] at h3
                    exact h3.1
                  have E1 := eq_run t t HTo.out HTo.out
                  have s1 := same_self t
                  have E2 := eq_run d d hoks.2 hoks.2
                  have s2 := same_self d
                  have E3 := eq_run t a HTo.out hoks.1
                  have E4 := eq_run t d HTo.out hoks.2
                  rw [e4] at E3
                  rw [e5] at E4
                  clear e1 e2 e3 e4 e5 hoks
                  as_aux_lemma =>
                    go_wp2_with fail
                    refine ((H9.out _)).mono ?_
                    rintro e w26 ⟨rfl, b⟩
                    have Sw26 := Lib.hid b.size
                    have HB := Lib.hid (chain0 (w := w) (by repeat (first | with_reducible exact Below.refl _ _ | with_reducible exact HB.out | with_reducible apply Below.drew | with_reducible apply bdN | with_reducible refine Below.alloc ?_ (by first | exact Nat.le_refl _ | with_reducible exact HB.out.size | omega | (simp; done) | (simp; omega) | (have := HB.out.size; simp at *; omega)) _ | with_reducible refine Below.setCell ?_ (by first | exact Nat.le_refl _ | with_reducible exact HB.out.size | omega | (simp; done) | (simp; omega) | (have := HB.out.size; simp at *; omega)) _)) b)
                    have K3 : Hid (Box _ (ua.heap.size) (a)) := Lib.hid (Box.below (by repeat (first | with_reducible exact K3.out | with_reducible apply Box.drewN | with_reducible apply Box.drew | (with_reducible refine Box.newAt ?_ ?_ <;> first | (simp; done) | rfl) | with_reducible apply Box.alloc)) b)
                    have K4 : Hid (Box _ (ua.heap.size + 1) (d)) := Lib.hid (Box.below (by repeat (first | with_reducible exact K4.out | with_reducible apply Box.drewN | with_reducible apply Box.drew | (with_reducible refine Box.newAt ?_ ?_ <;> first | (simp; done) | rfl) | with_reducible apply Box.alloc)) b)
                    have K5 : Hid (Box _ (w2.heap.size) (t)) := Lib.hid (Box.below (by repeat (first | with_reducible exact K5.out | with_reducible apply Box.drewN | with_reducible apply Box.drew | (with_reducible refine Box.newAt ?_ ?_ <;> first | (simp; done) | rfl) | with_reducible apply Box.alloc)) b)
                    try clear k3a k3b k3c k3d k3z
                    have k3z := K3.out.lt
                    obtain ⟨k3a, k3b, k3c, k3d⟩ := K3.out.cell
                    try clear k4a k4b k4c k4d k4z
                    have k4z := K4.out.lt
                    obtain ⟨k4a, k4b, k4c, k4d⟩ := K4.out.cell
                    try clear k5a k5b k5c k5d k5z
                    have k5z := K5.out.lt
                    obtain ⟨k5a, k5b, k5c, k5d⟩ := K5.out.cell
                    clear b
                    go_upto_region 53 with fail
                    obtain ⟨w27, ew, b⟩ : ∃ wOPN : World, wOPN = (w26.alloc t.obj) ∧ Below ((w26.alloc t.obj)).heap.size ((w26.alloc t.obj)) wOPN := ⟨_, rfl, Below.refl _ _⟩
                    rw [← ew]
                    clear ew
                    have Sw27 := Lib.hid b.size
                    have HB := Lib.hid (chain0 (w := w) (by repeat (first | with_reducible exact Below.refl _ _ | with_reducible exact HB.out | with_reducible apply Below.drew | with_reducible apply bdN | with_reducible refine Below.alloc ?_ (by first | exact Nat.le_refl _ | with_reducible exact HB.out.size | omega | (simp; done) | (simp; omega) | (have := HB.out.size; simp at *; omega)) _ | with_reducible refine Below.setCell ?_ (by first | exact Nat.le_refl _ | with_reducible exact HB.out.size | omega | (simp; done) | (simp; omega) | (have := HB.out.size; simp at *; omega)) _)) b)
                    have K3 : Hid (Box _ (ua.heap.size) (a)) := Lib.hid (Box.below (by repeat (first | with_reducible exact K3.out | with_reducible apply Box.drewN | with_reducible apply Box.drew | (with_reducible refine Box.newAt ?_ ?_ <;> first | (simp; done) | rfl) | with_reducible apply Box.alloc)) b)
                    have K4 : Hid (Box _ (ua.heap.size + 1) (d)) := Lib.hid (Box.below (by repeat (first | with_reducible exact K4.out | with_reducible apply Box.drewN | with_reducible apply Box.drew | (with_reducible refine Box.newAt ?_ ?_ <;> first | (simp; done) | rfl) | with_reducible apply Box.alloc)) b)
                    have K5 : Hid (Box _ (w2.heap.size) (t)) := Lib.hid (Box.below (by repeat (first | with_reducible exact K5.out | with_reducible apply Box.drewN | with_reducible apply Box.drew | (with_reducible refine Box.newAt ?_ ?_ <;> first | (simp; done) | rfl) | with_reducible apply Box.alloc)) b)
                    have K43 : Hid (Box _ (w26.heap.size) (t)) := Lib.hid (Box.below (by repeat (first | with_reducible exact K43.out | with_reducible apply Box.drewN | with_reducible apply Box.drew | (with_reducible refine Box.newAt ?_ ?_ <;> first | (simp; done) | rfl) | with_reducible apply Box.alloc)) b)
                    try clear k3a k3b k3c k3d k3z
                    have k3z := K3.out.lt
                    obtain ⟨k3a, k3b, k3c, k3d⟩ := K3.out.cell
                    try clear k4a k4b k4c k4d k4z
                    have k4z := K4.out.lt
                    obtain ⟨k4a, k4b, k4c, k4d⟩ := K4.out.cell
                    try clear k5a k5b k5c k5d k5z
                    have k5z := K5.out.lt
                    obtain ⟨k5a, k5b, k5c, k5d⟩ := K5.out.cell
                    try clear k43a k43b k43c k43d k43z
                    have k43z := K43.out.lt
                    obtain ⟨k43a, k43b, k43c, k43d⟩ := K43.out.cell
                    clear b
                    go_wp2_with fail
                    refine ((H10.out _)).mono ?_
                    rintro e w28 ⟨rfl, b⟩
                    have Sw28 := Lib.hid b.size
                    have HB := Lib.hid (chain0 (w := w) (by repeat (first | with_reducible exact Below.refl _ _ | with_reducible exact HB.out | with_reducible apply Below.drew | with_reducible apply bdN | with_reducible refine Below.alloc ?_ (by first | exact Nat.le_refl _ | with_reducible exact HB.out.size | omega | (simp; done) | (simp; omega) | (have := HB.out.size; simp at *; omega)) _ | with_reducible refine Below.setCell ?_ (by first | exact Nat.le_refl _ | with_reducible exact HB.out.size | omega | (simp; done) | (simp; omega) | (have := HB.out.size; simp at *; omega)) _)) b)
                    have K3 : Hid (Box _ (ua.heap.size) (a)) := Lib.hid (Box.below (by repeat (first | with_reducible exact K3.out | with_reducible apply Box.drewN | with_reducible apply Box.drew | (with_reducible refine Box.newAt ?_ ?_ <;> first | (simp; done) | rfl) | with_reducible apply Box.alloc)) b)
                    have K4 : Hid (Box _ (ua.heap.size + 1) (d)) := Lib.hid (Box.below (by repeat (first | with_reducible exact K4.out | with_reducible apply Box.drewN | with_reducible apply Box.drew | (with_reducible refine Box.newAt ?_ ?_ <;> first | (simp; done) | rfl) | with_reducible apply Box.alloc)) b)
                    have K5 : Hid (Box _ (w2.heap.size) (t)) := Lib.hid (Box.below (by repeat (first | with_reducible exact K5.out | with_reducible apply Box.drewN | with_reducible apply Box.drew | (with_reducible refine Box.newAt ?_ ?_ <;> first | (simp; done) | rfl) | with_reducible apply Box.alloc)) b)
                    have K43 : Hid (Box _ (w26.heap.size) (t)) := Lib.hid (Box.below (by repeat (first | with_reducible exact K43.out | with_reducible apply Box.drewN | with_reducible apply Box.drew | (with_reducible refine Box.newAt ?_ ?_ <;> first | (simp; done) | rfl) | with_reducible apply Box.alloc)) b)
                    try clear k3a k3b k3c k3d k3z
                    have k3z := K3.out.lt
                    obtain ⟨k3a, k3b, k3c, k3d⟩ := K3.out.cell
                    try clear k4a k4b k4c k4d k4z
                    have k4z := K4.out.lt
                    obtain ⟨k4a, k4b, k4c, k4d⟩ := K4.out.cell
                    try clear k5a k5b k5c k5d k5z
                    have k5z := K5.out.lt
                    obtain ⟨k5a, k5b, k5c, k5d⟩ := K5.out.cell
                    try clear k43a k43b k43c k43d k43z
                    have k43z := K43.out.lt
                    obtain ⟨k43a, k43b, k43c, k43d⟩ := K43.out.cell
                    clear b
                    go_upto_region 54 with fail
                    obtain ⟨w29, ew, b⟩ : ∃ wOPN : World, wOPN = (w28.alloc d.obj) ∧ Below ((w28.alloc d.obj)).heap.size ((w28.alloc d.obj)) wOPN := ⟨_, rfl, Below.refl _ _⟩
                    rw [← ew]
                    clear ew
                    have Sw29 := Lib.hid b.size
                    have HB := Lib.hid (chain0 (w := w) (by repeat (first | with_reducible exact Below.refl _ _ | with_reducible exact HB.out | with_reducible apply Below.drew | with_reducible apply bdN | with_reducible refine Below.alloc ?_ (by first | exact Nat.le_refl _ | with_reducible exact HB.out.size | omega | (simp; done) | (simp; omega) | (have := HB.out.size; simp at *; omega)) _ | with_reducible refine Below.setCell ?_ (by first | exact Nat.le_refl _ | with_reducible exact HB.out.size | omega | (simp; done) | (simp; omega) | (have := HB.out.size; simp at *; omega)) _)) b)
                    have K3 : Hid (Box _ (ua.heap.size) (a)) := Lib.hid (Box.below (by repeat (first | with_reducible exact K3.out | with_reducible apply Box.drewN | with_reducible apply Box.drew | (with_reducible refine Box.newAt ?_ ?_ <;> first | (simp; done) | rfl) | with_reducible apply Box.alloc)) b)
                    have K4 : Hid (Box _ (ua.heap.size + 1) (d)) := Lib.hid (Box.below (by repeat (first | with_reducible exact K4.out | with_reducible apply Box.drewN | with_reducible apply Box.drew | (with_reducible refine Box.newAt ?_ ?_ <;> first | (simp; done) | rfl) | with_reducible apply Box.alloc)) b)
                    have K5 : Hid (Box _ (w2.heap.size) (t)) := Lib.hid (Box.below (by repeat (first | with_reducible exact K5.out | with_reducible apply Box.drewN | with_reducible apply Box.drew | (with_reducible refine Box.newAt ?_ ?_ <;> first | (simp; done) | rfl) | with_reducible apply Box.alloc)) b)
                    have K43 : Hid (Box _ (w26.heap.size) (t)) := Lib.hid (Box.below (by repeat (first | with_reducible exact K43.out | with_reducible apply Box.drewN | with_reducible apply Box.drew | (with_reducible refine Box.newAt ?_ ?_ <;> first | (simp; done) | rfl) | with_reducible apply Box.alloc)) b)
                    have K45 : Hid (Box _ (w28.heap.size) (d)) := Lib.hid (Box.below (by repeat (first | with_reducible exact K45.out | with_reducible apply Box.drewN | with_reducible apply Box.drew | (with_reducible refine Box.newAt ?_ ?_ <;> first | (simp; done) | rfl) | with_reducible apply Box.alloc)) b)
                    try clear k3a k3b k3c k3d k3z
                    have k3z := K3.out.lt
                    obtain ⟨k3a, k3b, k3c, k3d⟩ := K3.out.cell
                    try clear k4a k4b k4c k4d k4z
                    have k4z := K4.out.lt
                    obtain ⟨k4a, k4b, k4c, k4d⟩ := K4.out.cell
                    try clear k5a k5b k5c k5d k5z
                    have k5z := K5.out.lt
                    obtain ⟨k5a, k5b, k5c, k5d⟩ := K5.out.cell
                    try clear k43a k43b k43c k43d k43z
                    have k43z := K43.out.lt
                    obtain ⟨k43a, k43b, k43c, k43d⟩ := K43.out.cell
                    try clear k45a k45b k45c k45d k45z
                    have k45z := K45.out.lt
                    obtain ⟨k45a, k45b, k45c, k45d⟩ := K45.out.cell
                    clear b
                    go_wp2_with fail
                    refine ((H11.out _)).mono ?_
                    rintro e w30 ⟨rfl, b⟩
                    have Sw30 := Lib.hid b.size
                    have HB := Lib.hid (chain0 (w := w) (by repeat (first | with_reducible exact Below.refl _ _ | with_reducible exact HB.out | with_reducible apply Below.drew | with_reducible apply bdN | with_reducible refine Below.alloc ?_ (by first | exact Nat.le_refl _ | with_reducible exact HB.out.size | omega | (simp; done) | (simp; omega) | (have := HB.out.size; simp at *; omega)) _ | with_reducible refine Below.setCell ?_ (by first | exact Nat.le_refl _ | with_reducible exact HB.out.size | omega | (simp; done) | (simp; omega) | (have := HB.out.size; simp at *; omega)) _)) b)
                    have K3 : Hid (Box _ (ua.heap.size) (a)) := Lib.hid (Box.below (by repeat (first | with_reducible exact K3.out | with_reducible apply Box.drewN | with_reducible apply Box.drew | (with_reducible refine Box.newAt ?_ ?_ <;> first | (simp; done) | rfl) | with_reducible apply Box.alloc)) b)
                    have K4 : Hid (Box _ (ua.heap.size + 1) (d)) := Lib.hid (Box.below (by repeat (first | with_reducible exact K4.out | with_reducible apply Box.drewN | with_reducible apply Box.drew | (with_reducible refine Box.newAt ?_ ?_ <;> first | (simp; done) | rfl) | with_reducible apply Box.alloc)) b)
                    have K5 : Hid (Box _ (w2.heap.size) (t)) := Lib.hid (Box.below (by repeat (first | with_reducible exact K5.out | with_reducible apply Box.drewN | with_reducible apply Box.drew | (with_reducible refine Box.newAt ?_ ?_ <;> first | (simp; done) | rfl) | with_reducible apply Box.alloc)) b)
                    have K43 : Hid (Box _ (w26.heap.size) (t)) := Lib.hid (Box.below (by repeat (first | with_reducible exact K43.out | with_reducible apply Box.drewN | with_reducible apply Box.drew | (with_reducible refine Box.newAt ?_ ?_ <;> first | (simp; done) | rfl) | with_reducible apply Box.alloc)) b)
                    have K45 : Hid (Box _ (w28.heap.size) (d)) := Lib.hid (Box.below (by repeat (first | with_reducible exact K45.out | with_reducible apply Box.drewN | with_reducible apply Box.drew | (with_reducible refine Box.newAt ?_ ?_ <;> first | (simp; done) | rfl) | with_reducible apply Box.alloc)) b)
                    try clear k3a k3b k3c k3d k3z
                    have k3z := K3.out.lt
                    obtain ⟨k3a, k3b, k3c, k3d⟩ := K3.out.cell
                    try clear k4a k4b k4c k4d k4z
                    have k4z := K4.out.lt
                    obtain ⟨k4a, k4b, k4c, k4d⟩ := K4.out.cell
                    try clear k5a k5b k5c k5d k5z
                    have k5z := K5.out.lt
                    obtain ⟨k5a, k5b, k5c, k5d⟩ := K5.out.cell
                    try clear k43a k43b k43c k43d k43z
                    have k43z := K43.out.lt
                    obtain ⟨k43a, k43b, k43c, k43d⟩ := K43.out.cell
                    try clear k45a k45b k45c k45d k45z
                    have k45z := K45.out.lt
                    obtain ⟨k45a, k45b, k45c, k45d⟩ := K45.out.cell
                    clear b
                    go_wp2_with fail
                    go_ret
                    exact ⟨rfl, by repeat (first | with_reducible exact Below.refl _ _ | with_reducible exact HB.out | with_reducible apply Below.drew | with_reducible apply bdN | with_reducible refine Below.alloc ?_ (by first | exact Nat.le_refl _ | with_reducible exact HB.out.size | omega | (simp; done) | (simp; omega) | (have := HB.out.size; simp at *; omega)) _ | with_reducible refine Below.setCell ?_ (by first | exact Nat.le_refl _ | with_reducible exact HB.out.size | omega | (simp; done) | (simp; omega) | (have := HB.out.size; simp at *; omega)) _)⟩
end Go.Proofs.Ytkmkochganknmaa.draw

