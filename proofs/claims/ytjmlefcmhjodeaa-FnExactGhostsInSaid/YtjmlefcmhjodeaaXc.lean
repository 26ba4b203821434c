/- Middles of four cards: mathematics; the model's list. -/
import Derived.Test.YtjmlefcmhjodeaaC7
import Derived.Test.YtjmlefcmhjodeaaPu
import Derived.Deep.DeepCutAuto
namespace Go.Proofs.Ytjmlefcmhjodeaa.others
open Go.RowKit
open cards
set_option linter.unusedVariables false

theorem third_comm (x y : Cd) : third x y = third y x := by
  unfold third
  congr 1 <;> omega
/-- The middles of four cards, by the three partings. -/
def mids (a b c d : Cd) : List Cd := (if same (third a b) (third c d) = true then [third a b] else []) ++ ((if same (third a c) (third b d) = true then [third a c] else []) ++ (if same (third a d) (third b c) = true then [third a d] else []))
theorem not_two {a b c d : Cd} (hb : b.ok = true) (hc : c.ok = true) (hbc : b ≠ c) (h1 : same (third a b) (third c d) = true) (h2 : same (third a c) (third b d) = true) : False := by
  obtain ⟨⟨y1, y2⟩, ⟨y3, y4⟩, ⟨y5, y6⟩, y7, y8⟩ := Cd.bd hb
  obtain ⟨⟨x1, x2⟩, ⟨x3, x4⟩, ⟨x5, x6⟩, x7, x8⟩ := Cd.bd hc
  rw [same_t] at h1 h2
  apply hbc
  apply same_iff.1
  rw [same_t]
  simp only [third] at h1 h2
  omega
/-- No two partings of four different cards are those of a quad. -/
theorem mids_one {a b c d : Cd} (hb : b.ok = true) (hc : c.ok = true) (hd : d.ok = true) (hbc : b ≠ c) (hbd : b ≠ d) (hcd : c ≠ d) :
    (same (third a b) (third c d) = true → same (third a c) (third b d) = false ∧ same (third a d) (third b c) = false) ∧
    (same (third a c) (third b d) = true → same (third a d) (third b c) = false) := by
  refine ⟨fun h1 => ⟨?_, ?_⟩, fun h2 => ?_⟩
  · rw [Bool.eq_false_iff]; intro h2; exact not_two hb hc hbc h1 h2
  · rw [Bool.eq_false_iff]; intro h2
    rw [third_comm c d] at h1; rw [third_comm b c] at h2
    exact not_two (a := a) (b := b) (c := d) (d := c) hb hd hbd h1 (by rw [third_comm b c]; exact h2)
  · rw [Bool.eq_false_iff]; intro h3
    rw [third_comm b d] at h2; rw [third_comm b c] at h3
    exact not_two (a := a) (b := c) (c := d) (d := b) hc hd hcd h2 h3
theorem mids_len {a b c d : Cd} (hb : b.ok = true) (hc : c.ok = true) (hd : d.ok = true) (hbc : b ≠ c) (hbd : b ≠ d) (hcd : c ≠ d) : (mids a b c d).length ≤ 1 := by
  obtain ⟨h1, h2⟩ := mids_one (a := a) hb hc hd hbc hbd hcd
  unfold mids
  cases q1 : same (third a b) (third c d)
  · cases q2 : same (third a c) (third b d)
    · cases q3 : same (third a d) (third b c) <;> simp
    · rw [h2 q2]; simp
  · rw [(h1 q1).1, (h1 q1).2]; simp
theorem put_nil (x : Cd) : put [] x = [x] := rfl
theorem run_nil (w : World) : True := trivial

set_option maxRecDepth 100000 in
set_option maxHeartbeats 8000000 in
theorem l10_mid1 (x y z t : Cd) (w : World) (ha : x.ok = true) (hb : y.ok = true) (hc : z.ok = true) (hd : t.ok = true) (q1 : same (third x y) (third z t) = true) (q2 : same (third x z) (third y t) = false) (q3 : same (third x t) (third y z) = false) :
    Calls Try.prog 53 #[x.val, y.val, z.val, t.val] w fun e w' => ∃ u, e = .returned u ∧ Own w' w.heap.size u [third x y] ∧ Below w.heap.size w w' := by
  have he1 := eq_run (third x y) (third z t) (third_ok _ _) (third_ok _ _)
  rw [q1] at he1
  have he2 := eq_run (third x z) (third y t) (third_ok _ _) (third_ok _ _)
  rw [q2] at he2
  have he3 := eq_run (third x t) (third y z) (third_ok _ _) (third_ok _ _)
  rw [q3] at he3
  have HXx := Lib.hid ha
  have HXy := Lib.hid hb
  have HXz := Lib.hid hc
  have HXt := Lib.hid hd
  clear ha hb hc hd q1 q2 q3
  go_enter Try.func53, Try.ntmps53
  go_upto_region 1 with fail
  obtain ⟨wa, ew, b⟩ : ∃ wOPN : World, wOPN = ((((w.alloc x.obj).alloc y.obj).alloc z.obj).alloc t.obj) ∧ Below (((((w.alloc x.obj).alloc y.obj).alloc z.obj).alloc t.obj)).heap.size (((((w.alloc x.obj).alloc y.obj).alloc z.obj).alloc t.obj)) wOPN := ⟨_, rfl, Below.refl _ _⟩
  rw [← ew]
  clear ew
  have Swa := Lib.hid b.size
  have HB := Lib.hid (chain0 (w := w) (by repeat (first | with_reducible exact Below.refl _ _ | with_reducible exact HB.out | with_reducible apply Below.drew | with_reducible apply bdN | with_reducible refine Below.alloc ?_ (by first | exact Nat.le_refl _ | with_reducible exact HB.out.size | omega | (simp; done) | (simp; omega) | (have := HB.out.size; simp at *; omega)) _ | with_reducible refine Below.setCell ?_ (by first | exact Nat.le_refl _ | with_reducible exact HB.out.size | omega | (simp; done) | (simp; omega) | (have := HB.out.size; simp at *; omega)) _)) b)
  have K0 : Hid (Box _ (w.heap.size) (x)) := Lib.hid (Box.below (by repeat (first | with_reducible exact K0.out | with_reducible apply Box.drewN | with_reducible apply Box.drew | (with_reducible refine Box.newAt ?_ ?_ <;> first | (simp; done) | rfl) | with_reducible apply Box.alloc)) b)
  have K1 : Hid (Box _ (w.heap.size + 1) (y)) := Lib.hid (Box.below (by repeat (first | with_reducible exact K1.out | with_reducible apply Box.drewN | with_reducible apply Box.drew | (with_reducible refine Box.newAt ?_ ?_ <;> first | (simp; done) | rfl) | with_reducible apply Box.alloc)) b)
  have K2 : Hid (Box _ (w.heap.size + 1 + 1) (z)) := Lib.hid (Box.below (by repeat (first | with_reducible exact K2.out | with_reducible apply Box.drewN | with_reducible apply Box.drew | (with_reducible refine Box.newAt ?_ ?_ <;> first | (simp; done) | rfl) | with_reducible apply Box.alloc)) b)
  have K3 : Hid (Box _ (w.heap.size + 1 + 1 + 1) (t)) := Lib.hid (Box.below (by repeat (first | with_reducible exact K3.out | with_reducible apply Box.drewN | with_reducible apply Box.drew | (with_reducible refine Box.newAt ?_ ?_ <;> first | (simp; done) | rfl) | with_reducible apply Box.alloc)) b)
  try clear k0a k0b k0c k0d k0z
  have k0z := K0.out.lt
  obtain ⟨k0a, k0b, k0c, k0d⟩ := K0.out.cell
  try clear k1a k1b k1c k1d k1z
  have k1z := K1.out.lt
  obtain ⟨k1a, k1b, k1c, k1d⟩ := K1.out.cell
  try clear k2a k2b k2c k2d k2z
  have k2z := K2.out.lt
  obtain ⟨k2a, k2b, k2c, k2d⟩ := K2.out.cell
  try clear k3a k3b k3c k3d k3z
  have k3z := K3.out.lt
  obtain ⟨k3a, k3b, k3c, k3d⟩ := K3.out.cell
  clear b
  have O0 := Lib.hid (OwnN.empty wa w.heap.size HB.out.size)
  go_upto_region 2 with fail
  obtain ⟨wb, ew, b⟩ : ∃ wOPN : World, wOPN = (wa.alloc (.cells #[] 25)) ∧ Below ((wa.alloc (.cells #[] 25))).heap.size ((wa.alloc (.cells #[] 25))) wOPN := ⟨_, rfl, Below.refl _ _⟩
  rw [← ew]
  clear ew
  have Swb := Lib.hid b.size
  have HB := Lib.hid (chain0 (w := w) (by repeat (first | with_reducible exact Below.refl _ _ | with_reducible exact HB.out | with_reducible apply Below.drew | with_reducible apply bdN | with_reducible refine Below.alloc ?_ (by first | exact Nat.le_refl _ | with_reducible exact HB.out.size | omega | (simp; done) | (simp; omega) | (have := HB.out.size; simp at *; omega)) _ | with_reducible refine Below.setCell ?_ (by first | exact Nat.le_refl _ | with_reducible exact HB.out.size | omega | (simp; done) | (simp; omega) | (have := HB.out.size; simp at *; omega)) _)) b)
  have O0 := Lib.hid (OwnN.below (by repeat (first | with_reducible exact O0.out | with_reducible apply OwnN.drewN | with_reducible apply OwnN.drew | with_reducible apply OwnN.alloc)) b)
  have K0 : Hid (Box _ (w.heap.size) (x)) := Lib.hid (Box.below (by repeat (first | with_reducible exact K0.out | with_reducible apply Box.drewN | with_reducible apply Box.drew | (with_reducible refine Box.newAt ?_ ?_ <;> first | (simp; done) | rfl) | with_reducible apply Box.alloc)) b)
  have K1 : Hid (Box _ (w.heap.size + 1) (y)) := Lib.hid (Box.below (by repeat (first | with_reducible exact K1.out | with_reducible apply Box.drewN | with_reducible apply Box.drew | (with_reducible refine Box.newAt ?_ ?_ <;> first | (simp; done) | rfl) | with_reducible apply Box.alloc)) b)
  have K2 : Hid (Box _ (w.heap.size + 1 + 1) (z)) := Lib.hid (Box.below (by repeat (first | with_reducible exact K2.out | with_reducible apply Box.drewN | with_reducible apply Box.drew | (with_reducible refine Box.newAt ?_ ?_ <;> first | (simp; done) | rfl) | with_reducible apply Box.alloc)) b)
  have K3 : Hid (Box _ (w.heap.size + 1 + 1 + 1) (t)) := Lib.hid (Box.below (by repeat (first | with_reducible exact K3.out | with_reducible apply Box.drewN | with_reducible apply Box.drew | (with_reducible refine Box.newAt ?_ ?_ <;> first | (simp; done) | rfl) | with_reducible apply Box.alloc)) b)
  try clear k0a k0b k0c k0d k0z
  have k0z := K0.out.lt
  obtain ⟨k0a, k0b, k0c, k0d⟩ := K0.out.cell
  try clear k1a k1b k1c k1d k1z
  have k1z := K1.out.lt
  obtain ⟨k1a, k1b, k1c, k1d⟩ := K1.out.cell
  try clear k2a k2b k2c k2d k2z
  have k2z := K2.out.lt
  obtain ⟨k2a, k2b, k2c, k2d⟩ := K2.out.cell
  try clear k3a k3b k3c k3d k3z
  have k3z := K3.out.lt
  obtain ⟨k3a, k3b, k3c, k3d⟩ := K3.out.cell
  clear b
  obtain ⟨g, hg⟩ : ∃ g, wa.heap.size = g := ⟨_, rfl⟩
  rw [hg] at O0
  try rw [hg]
  clear hg
  have qk0a := fun d os => cell_regrown k0a d os
  have qk0b := fun d os => cell_regrown k0b d os
  have qk0c := fun d os => cell_regrown k0c d os
  have qk0d := fun d os => cell_regrown k0d d os
  have qk1a := fun d os => cell_regrown k1a d os
  have qk1b := fun d os => cell_regrown k1b d os
  have qk1c := fun d os => cell_regrown k1c d os
  have qk1d := fun d os => cell_regrown k1d d os
  have qk2a := fun d os => cell_regrown k2a d os
  have qk2b := fun d os => cell_regrown k2b d os
  have qk2c := fun d os => cell_regrown k2c d os
  have qk2d := fun d os => cell_regrown k2d d os
  have qk3a := fun d os => cell_regrown k3a d os
  have qk3b := fun d os => cell_regrown k3b d os
  have qk3c := fun d os => cell_regrown k3c d os
  have qk3d := fun d os => cell_regrown k3d d os
  refine wp_region_quiet_below (by kernel_rfl) (by kernel_rfl) ?_
  repeat (first | go_big_quiet_step ((first | (go_at_call 83; with_reducible exact Calls.regrown_of (l2_third _ _ _ HXx.out HXy.out)) | (go_at_call 83; with_reducible exact Calls.regrown_of (l2_third _ _ _ HXz.out HXt.out)))) | quiet_step ((first | (go_at_call 83; with_reducible exact Calls.regrown_of (l2_third _ _ _ HXx.out HXy.out)) | (go_at_call 83; with_reducible exact Calls.regrown_of (l2_third _ _ _ HXz.out HXt.out)))))
  refine wpQuiet_nil ?_
  intro w0 hw2
  have b : Below wb.heap.size wb w0 := by obtain ⟨r, hr⟩ := hw2; rw [hr]; exact below_regrown _ _ _
  clear hw2 qk0a qk0b qk0c qk0d qk1a qk1b qk1c qk1d qk2a qk2b qk2c qk2d qk3a qk3b qk3c qk3d
  have Sw0 := Lib.hid b.size
  have HB := Lib.hid (chain0 (w := w) (by repeat (first | with_reducible exact Below.refl _ _ | with_reducible exact HB.out | with_reducible apply Below.drew | with_reducible apply bdN | with_reducible refine Below.alloc ?_ (by first | exact Nat.le_refl _ | with_reducible exact HB.out.size | omega | (simp; done) | (simp; omega) | (have := HB.out.size; simp at *; omega)) _ | with_reducible refine Below.setCell ?_ (by first | exact Nat.le_refl _ | with_reducible exact HB.out.size | omega | (simp; done) | (simp; omega) | (have := HB.out.size; simp at *; omega)) _)) b)
  have O0 := Lib.hid (OwnN.below (by repeat (first | with_reducible exact O0.out | with_reducible apply OwnN.drewN | with_reducible apply OwnN.drew | with_reducible apply OwnN.alloc)) b)
  have K0 : Hid (Box _ (w.heap.size) (x)) := Lib.hid (Box.below (by repeat (first | with_reducible exact K0.out | with_reducible apply Box.drewN | with_reducible apply Box.drew | (with_reducible refine Box.newAt ?_ ?_ <;> first | (simp; done) | rfl) | with_reducible apply Box.alloc)) b)
  have K1 : Hid (Box _ (w.heap.size + 1) (y)) := Lib.hid (Box.below (by repeat (first | with_reducible exact K1.out | with_reducible apply Box.drewN | with_reducible apply Box.drew | (with_reducible refine Box.newAt ?_ ?_ <;> first | (simp; done) | rfl) | with_reducible apply Box.alloc)) b)
  have K2 : Hid (Box _ (w.heap.size + 1 + 1) (z)) := Lib.hid (Box.below (by repeat (first | with_reducible exact K2.out | with_reducible apply Box.drewN | with_reducible apply Box.drew | (with_reducible refine Box.newAt ?_ ?_ <;> first | (simp; done) | rfl) | with_reducible apply Box.alloc)) b)
  have K3 : Hid (Box _ (w.heap.size + 1 + 1 + 1) (t)) := Lib.hid (Box.below (by repeat (first | with_reducible exact K3.out | with_reducible apply Box.drewN | with_reducible apply Box.drew | (with_reducible refine Box.newAt ?_ ?_ <;> first | (simp; done) | rfl) | with_reducible apply Box.alloc)) b)
  try clear k0a k0b k0c k0d k0z
  have k0z := K0.out.lt
  obtain ⟨k0a, k0b, k0c, k0d⟩ := K0.out.cell
  try clear k1a k1b k1c k1d k1z
  have k1z := K1.out.lt
  obtain ⟨k1a, k1b, k1c, k1d⟩ := K1.out.cell
  try clear k2a k2b k2c k2d k2z
  have k2z := K2.out.lt
  obtain ⟨k2a, k2b, k2c, k2d⟩ := K2.out.cell
  try clear k3a k3b k3c k3d k3z
  have k3z := K3.out.lt
  obtain ⟨k3a, k3b, k3c, k3d⟩ := K3.out.cell
  clear b
  go_wp2_with fail
  refine ((l2_third x y _ HXx.out HXy.out)).mono ?_
  rintro e w1 ⟨rfl, b⟩
  have Sw1 := Lib.hid b.size
  have HB := Lib.hid (chain0 (w := w) (by repeat (first | with_reducible exact Below.refl _ _ | with_reducible exact HB.out | with_reducible apply Below.drew | with_reducible apply bdN | with_reducible refine Below.alloc ?_ (by first | exact Nat.le_refl _ | with_reducible exact HB.out.size | omega | (simp; done) | (simp; omega) | (have := HB.out.size; simp at *; omega)) _ | with_reducible refine Below.setCell ?_ (by first | exact Nat.le_refl _ | with_reducible exact HB.out.size | omega | (simp; done) | (simp; omega) | (have := HB.out.size; simp at *; omega)) _)) b)
  have O0 := Lib.hid (OwnN.below (by repeat (first | with_reducible exact O0.out | with_reducible apply OwnN.drewN | with_reducible apply OwnN.drew | with_reducible apply OwnN.alloc)) b)
  have K0 : Hid (Box _ (w.heap.size) (x)) := Lib.hid (Box.below (by repeat (first | with_reducible exact K0.out | with_reducible apply Box.drewN | with_reducible apply Box.drew | (with_reducible refine Box.newAt ?_ ?_ <;> first | (simp; done) | rfl) | with_reducible apply Box.alloc)) b)
  have K1 : Hid (Box _ (w.heap.size + 1) (y)) := Lib.hid (Box.below (by repeat (first | with_reducible exact K1.out | with_reducible apply Box.drewN | with_reducible apply Box.drew | (with_reducible refine Box.newAt ?_ ?_ <;> first | (simp; done) | rfl) | with_reducible apply Box.alloc)) b)
  have K2 : Hid (Box _ (w.heap.size + 1 + 1) (z)) := Lib.hid (Box.below (by repeat (first | with_reducible exact K2.out | with_reducible apply Box.drewN | with_reducible apply Box.drew | (with_reducible refine Box.newAt ?_ ?_ <;> first | (simp; done) | rfl) | with_reducible apply Box.alloc)) b)
  have K3 : Hid (Box _ (w.heap.size + 1 + 1 + 1) (t)) := Lib.hid (Box.below (by repeat (first | with_reducible exact K3.out | with_reducible apply Box.drewN | with_reducible apply Box.drew | (with_reducible refine Box.newAt ?_ ?_ <;> first | (simp; done) | rfl) | with_reducible apply Box.alloc)) b)
  try clear k0a k0b k0c k0d k0z
  have k0z := K0.out.lt
  obtain ⟨k0a, k0b, k0c, k0d⟩ := K0.out.cell
  try clear k1a k1b k1c k1d k1z
  have k1z := K1.out.lt
  obtain ⟨k1a, k1b, k1c, k1d⟩ := K1.out.cell
  try clear k2a k2b k2c k2d k2z
  have k2z := K2.out.lt
  obtain ⟨k2a, k2b, k2c, k2d⟩ := K2.out.cell
  try clear k3a k3b k3c k3d k3z
  have k3z := K3.out.lt
  obtain ⟨k3a, k3b, k3c, k3d⟩ := K3.out.cell
  clear b
  go_wp2_with fail
  refine (l2_put [] (third x y) g 0 0 0 _ rfl (by omega) (by omega) (fun h => by simp [flat] at h) rfl (third_ok _ _) (List.Pairwise.nil)).mono ?_
  rintro e w2 ⟨u, rfl, hu, b1⟩
  rw [put_nil] at hu
  have b := b1
  have O1 := Lib.hid (OwnN.own (OwnN.base hu HB.out.size))
  have Sw2 := Lib.hid b.size
  have HB := Lib.hid (chain0 (w := w) (by repeat (first | with_reducible exact Below.refl _ _ | with_reducible exact HB.out | with_reducible apply Below.drew | with_reducible apply bdN | with_reducible refine Below.alloc ?_ (by first | exact Nat.le_refl _ | with_reducible exact HB.out.size | omega | (simp; done) | (simp; omega) | (have := HB.out.size; simp at *; omega)) _ | with_reducible refine Below.setCell ?_ (by first | exact Nat.le_refl _ | with_reducible exact HB.out.size | omega | (simp; done) | (simp; omega) | (have := HB.out.size; simp at *; omega)) _)) b)
  have K0 : Hid (Box _ (w.heap.size) (x)) := Lib.hid (Box.below (by repeat (first | with_reducible exact K0.out | with_reducible apply Box.drewN | with_reducible apply Box.drew | (with_reducible refine Box.newAt ?_ ?_ <;> first | (simp; done) | rfl) | with_reducible apply Box.alloc)) b)
  have K1 : Hid (Box _ (w.heap.size + 1) (y)) := Lib.hid (Box.below (by repeat (first | with_reducible exact K1.out | with_reducible apply Box.drewN | with_reducible apply Box.drew | (with_reducible refine Box.newAt ?_ ?_ <;> first | (simp; done) | rfl) | with_reducible apply Box.alloc)) b)
  have K2 : Hid (Box _ (w.heap.size + 1 + 1) (z)) := Lib.hid (Box.below (by repeat (first | with_reducible exact K2.out | with_reducible apply Box.drewN | with_reducible apply Box.drew | (with_reducible refine Box.newAt ?_ ?_ <;> first | (simp; done) | rfl) | with_reducible apply Box.alloc)) b)
  have K3 : Hid (Box _ (w.heap.size + 1 + 1 + 1) (t)) := Lib.hid (Box.below (by repeat (first | with_reducible exact K3.out | with_reducible apply Box.drewN | with_reducible apply Box.drew | (with_reducible refine Box.newAt ?_ ?_ <;> first | (simp; done) | rfl) | with_reducible apply Box.alloc)) b)
  try clear k0a k0b k0c k0d k0z
  have k0z := K0.out.lt
  obtain ⟨k0a, k0b, k0c, k0d⟩ := K0.out.cell
  try clear k1a k1b k1c k1d k1z
  have k1z := K1.out.lt
  obtain ⟨k1a, k1b, k1c, k1d⟩ := K1.out.cell
  try clear k2a k2b k2c k2d k2z
  have k2z := K2.out.lt
  obtain ⟨k2a, k2b, k2c, k2d⟩ := K2.out.cell
  try clear k3a k3b k3c k3d k3z
  have k3z := K3.out.lt
  obtain ⟨k3a, k3b, k3c, k3d⟩ := K3.out.cell
  clear b
  clear hu b1
  go_wp2_with fail
  have qk0a := fun d os => cell_regrown k0a d os
  have qk0b := fun d os => cell_regrown k0b d os
  have qk0c := fun d os => cell_regrown k0c d os
  have qk0d := fun d os => cell_regrown k0d d os
  have qk1a := fun d os => cell_regrown k1a d os
  have qk1b := fun d os => cell_regrown k1b d os
  have qk1c := fun d os => cell_regrown k1c d os
  have qk1d := fun d os => cell_regrown k1d d os
  have qk2a := fun d os => cell_regrown k2a d os
  have qk2b := fun d os => cell_regrown k2b d os
  have qk2c := fun d os => cell_regrown k2c d os
  have qk2d := fun d os => cell_regrown k2d d os
  have qk3a := fun d os => cell_regrown k3a d os
  have qk3b := fun d os => cell_regrown k3b d os
  have qk3c := fun d os => cell_regrown k3c d os
  have qk3d := fun d os => cell_regrown k3d d os
  refine wp_region_quiet_below (by kernel_rfl) (by kernel_rfl) ?_
  repeat (first | go_big_quiet_step ((first | (go_at_call 83; with_reducible exact Calls.regrown_of (l2_third _ _ _ HXx.out HXz.out)) | (go_at_call 83; with_reducible exact Calls.regrown_of (l2_third _ _ _ HXy.out HXt.out)))) | quiet_step ((first | (go_at_call 83; with_reducible exact Calls.regrown_of (l2_third _ _ _ HXx.out HXz.out)) | (go_at_call 83; with_reducible exact Calls.regrown_of (l2_third _ _ _ HXy.out HXt.out)))))
  refine wpQuiet_nil ?_
  intro w3 hw2
  have b : Below w2.heap.size w2 w3 := by obtain ⟨r, hr⟩ := hw2; rw [hr]; exact below_regrown _ _ _
  clear hw2 qk0a qk0b qk0c qk0d qk1a qk1b qk1c qk1d qk2a qk2b qk2c qk2d qk3a qk3b qk3c qk3d
  have Sw3 := Lib.hid b.size
  have HB := Lib.hid (chain0 (w := w) (by repeat (first | with_reducible exact Below.refl _ _ | with_reducible exact HB.out | with_reducible apply Below.drew | with_reducible apply bdN | with_reducible refine Below.alloc ?_ (by first | exact Nat.le_refl _ | with_reducible exact HB.out.size | omega | (simp; done) | (simp; omega) | (have := HB.out.size; simp at *; omega)) _ | with_reducible refine Below.setCell ?_ (by first | exact Nat.le_refl _ | with_reducible exact HB.out.size | omega | (simp; done) | (simp; omega) | (have := HB.out.size; simp at *; omega)) _)) b)
  have O1 := Lib.hid (Own.below (by repeat (first | with_reducible exact O1.out | with_reducible apply Own.drewN | with_reducible apply Own.drew | with_reducible apply Own.alloc)) b)
  have K0 : Hid (Box _ (w.heap.size) (x)) := Lib.hid (Box.below (by repeat (first | with_reducible exact K0.out | with_reducible apply Box.drewN | with_reducible apply Box.drew | (with_reducible refine Box.newAt ?_ ?_ <;> first | (simp; done) | rfl) | with_reducible apply Box.alloc)) b)
  have K1 : Hid (Box _ (w.heap.size + 1) (y)) := Lib.hid (Box.below (by repeat (first | with_reducible exact K1.out | with_reducible apply Box.drewN | with_reducible apply Box.drew | (with_reducible refine Box.newAt ?_ ?_ <;> first | (simp; done) | rfl) | with_reducible apply Box.alloc)) b)
  have K2 : Hid (Box _ (w.heap.size + 1 + 1) (z)) := Lib.hid (Box.below (by repeat (first | with_reducible exact K2.out | with_reducible apply Box.drewN | with_reducible apply Box.drew | (with_reducible refine Box.newAt ?_ ?_ <;> first | (simp; done) | rfl) | with_reducible apply Box.alloc)) b)
  have K3 : Hid (Box _ (w.heap.size + 1 + 1 + 1) (t)) := Lib.hid (Box.below (by repeat (first | with_reducible exact K3.out | with_reducible apply Box.drewN | with_reducible apply Box.drew | (with_reducible refine Box.newAt ?_ ?_ <;> first | (simp; done) | rfl) | with_reducible apply Box.alloc)) b)
  try clear k0a k0b k0c k0d k0z
  have k0z := K0.out.lt
  obtain ⟨k0a, k0b, k0c, k0d⟩ := K0.out.cell
  try clear k1a k1b k1c k1d k1z
  have k1z := K1.out.lt
  obtain ⟨k1a, k1b, k1c, k1d⟩ := K1.out.cell
  try clear k2a k2b k2c k2d k2z
  have k2z := K2.out.lt
  obtain ⟨k2a, k2b, k2c, k2d⟩ := K2.out.cell
  try clear k3a k3b k3c k3d k3z
  have k3z := K3.out.lt
  obtain ⟨k3a, k3b, k3c, k3d⟩ := K3.out.cell
  clear b
  go_wp2_with fail
  have qk0a := fun d os => cell_regrown k0a d os
  have qk0b := fun d os => cell_regrown k0b d os
  have qk0c := fun d os => cell_regrown k0c d os
  have qk0d := fun d os => cell_regrown k0d d os
  have qk1a := fun d os => cell_regrown k1a d os
  have qk1b := fun d os => cell_regrown k1b d os
  have qk1c := fun d os => cell_regrown k1c d os
  have qk1d := fun d os => cell_regrown k1d d os
  have qk2a := fun d os => cell_regrown k2a d os
  have qk2b := fun d os => cell_regrown k2b d os
  have qk2c := fun d os => cell_regrown k2c d os
  have qk2d := fun d os => cell_regrown k2d d os
  have qk3a := fun d os => cell_regrown k3a d os
  have qk3b := fun d os => cell_regrown k3b d os
  have qk3c := fun d os => cell_regrown k3c d os
  have qk3d := fun d os => cell_regrown k3d d os
  refine wp_region_quiet_below (by kernel_rfl) (by kernel_rfl) ?_
  repeat (first | go_big_quiet_step ((first | (go_at_call 83; with_reducible exact Calls.regrown_of (l2_third _ _ _ HXx.out HXt.out)) | (go_at_call 83; with_reducible exact Calls.regrown_of (l2_third _ _ _ HXy.out HXz.out)))) | quiet_step ((first | (go_at_call 83; with_reducible exact Calls.regrown_of (l2_third _ _ _ HXx.out HXt.out)) | (go_at_call 83; with_reducible exact Calls.regrown_of (l2_third _ _ _ HXy.out HXz.out)))))
  refine wpQuiet_nil ?_
  intro w4 hw2
  have b : Below w3.heap.size w3 w4 := by obtain ⟨r, hr⟩ := hw2; rw [hr]; exact below_regrown _ _ _
  clear hw2 qk0a qk0b qk0c qk0d qk1a qk1b qk1c qk1d qk2a qk2b qk2c qk2d qk3a qk3b qk3c qk3d
  have Sw4 := Lib.hid b.size
  have HB := Lib.hid (chain0 (w := w) (by repeat (first | with_reducible exact Below.refl _ _ | with_reducible exact HB.out | with_reducible apply Below.drew | with_reducible apply bdN | with_reducible refine Below.alloc ?_ (by first | exact Nat.le_refl _ | with_reducible exact HB.out.size | omega | (simp; done) | (simp; omega) | (have := HB.out.size; simp at *; omega)) _ | with_reducible refine Below.setCell ?_ (by first | exact Nat.le_refl _ | with_reducible exact HB.out.size | omega | (simp; done) | (simp; omega) | (have := HB.out.size; simp at *; omega)) _)) b)
  have O1 := Lib.hid (Own.below (by repeat (first | with_reducible exact O1.out | with_reducible apply Own.drewN | with_reducible apply Own.drew | with_reducible apply Own.alloc)) b)
  have K0 : Hid (Box _ (w.heap.size) (x)) := Lib.hid (Box.below (by repeat (first | with_reducible exact K0.out | with_reducible apply Box.drewN | with_reducible apply Box.drew | (with_reducible refine Box.newAt ?_ ?_ <;> first | (simp; done) | rfl) | with_reducible apply Box.alloc)) b)
  have K1 : Hid (Box _ (w.heap.size + 1) (y)) := Lib.hid (Box.below (by repeat (first | with_reducible exact K1.out | with_reducible apply Box.drewN | with_reducible apply Box.drew | (with_reducible refine Box.newAt ?_ ?_ <;> first | (simp; done) | rfl) | with_reducible apply Box.alloc)) b)
  have K2 : Hid (Box _ (w.heap.size + 1 + 1) (z)) := Lib.hid (Box.below (by repeat (first | with_reducible exact K2.out | with_reducible apply Box.drewN | with_reducible apply Box.drew | (with_reducible refine Box.newAt ?_ ?_ <;> first | (simp; done) | rfl) | with_reducible apply Box.alloc)) b)
  have K3 : Hid (Box _ (w.heap.size + 1 + 1 + 1) (t)) := Lib.hid (Box.below (by repeat (first | with_reducible exact K3.out | with_reducible apply Box.drewN | with_reducible apply Box.drew | (with_reducible refine Box.newAt ?_ ?_ <;> first | (simp; done) | rfl) | with_reducible apply Box.alloc)) b)
  try clear k0a k0b k0c k0d k0z
  have k0z := K0.out.lt
  obtain ⟨k0a, k0b, k0c, k0d⟩ := K0.out.cell
  try clear k1a k1b k1c k1d k1z
  have k1z := K1.out.lt
  obtain ⟨k1a, k1b, k1c, k1d⟩ := K1.out.cell
  try clear k2a k2b k2c k2d k2z
  have k2z := K2.out.lt
  obtain ⟨k2a, k2b, k2c, k2d⟩ := K2.out.cell
  try clear k3a k3b k3c k3d k3z
  have k3z := K3.out.lt
  obtain ⟨k3a, k3b, k3c, k3d⟩ := K3.out.cell
  clear b
  go_wp2_with fail
  go_ret
  exact ⟨_, rfl, O1.out, HB.out⟩

set_option maxRecDepth 100000 in
set_option maxHeartbeats 8000000 in
theorem l10_mid2 (x y z t : Cd) (w : World) (ha : x.ok = true) (hb : y.ok = true) (hc : z.ok = true) (hd : t.ok = true) (q1 : same (third x y) (third z t) = false) (q2 : same (third x z) (third y t) = true) (q3 : same (third x t) (third y z) = false) :
    Calls Try.prog 53 #[x.val, y.val, z.val, t.val] w fun e w' => ∃ u, e = .returned u ∧ Own w' w.heap.size u [third x z] ∧ Below w.heap.size w w' := by
  have he1 := eq_run (third x y) (third z t) (third_ok _ _) (third_ok _ _)
  rw [q1] at he1
  have he2 := eq_run (third x z) (third y t) (third_ok _ _) (third_ok _ _)
  rw [q2] at he2
  have he3 := eq_run (third x t) (third y z) (third_ok _ _) (third_ok _ _)
  rw [q3] at he3
  have HXx := Lib.hid ha
  have HXy := Lib.hid hb
  have HXz := Lib.hid hc
  have HXt := Lib.hid hd
  clear ha hb hc hd q1 q2 q3
  go_enter Try.func53, Try.ntmps53
  go_upto_region 1 with fail
  obtain ⟨wa, ew, b⟩ : ∃ wOPN : World, wOPN = ((((w.alloc x.obj).alloc y.obj).alloc z.obj).alloc t.obj) ∧ Below (((((w.alloc x.obj).alloc y.obj).alloc z.obj).alloc t.obj)).heap.size (((((w.alloc x.obj).alloc y.obj).alloc z.obj).alloc t.obj)) wOPN := ⟨_, rfl, Below.refl _ _⟩
  rw [← ew]
  clear ew
  have Swa := Lib.hid b.size
  have HB := Lib.hid (chain0 (w := w) (by repeat (first | with_reducible exact Below.refl _ _ | with_reducible exact HB.out | with_reducible apply Below.drew | with_reducible apply bdN | with_reducible refine Below.alloc ?_ (by first | exact Nat.le_refl _ | with_reducible exact HB.out.size | omega | (simp; done) | (simp; omega) | (have := HB.out.size; simp at *; omega)) _ | with_reducible refine Below.setCell ?_ (by first | exact Nat.le_refl _ | with_reducible exact HB.out.size | omega | (simp; done) | (simp; omega) | (have := HB.out.size; simp at *; omega)) _)) b)
  have K0 : Hid (Box _ (w.heap.size) (x)) := Lib.hid (Box.below (by repeat (first | with_reducible exact K0.out | with_reducible apply Box.drewN | with_reducible apply Box.drew | (with_reducible refine Box.newAt ?_ ?_ <;> first | (simp; done) | rfl) | with_reducible apply Box.alloc)) b)
  have K1 : Hid (Box _ (w.heap.size + 1) (y)) := Lib.hid (Box.below (by repeat (first | with_reducible exact K1.out | with_reducible apply Box.drewN | with_reducible apply Box.drew | (with_reducible refine Box.newAt ?_ ?_ <;> first | (simp; done) | rfl) | with_reducible apply Box.alloc)) b)
  have K2 : Hid (Box _ (w.heap.size + 1 + 1) (z)) := Lib.hid (Box.below (by repeat (first | with_reducible exact K2.out | with_reducible apply Box.drewN | with_reducible apply Box.drew | (with_reducible refine Box.newAt ?_ ?_ <;> first | (simp; done) | rfl) | with_reducible apply Box.alloc)) b)
  have K3 : Hid (Box _ (w.heap.size + 1 + 1 + 1) (t)) := Lib.hid (Box.below (by repeat (first | with_reducible exact K3.out | with_reducible apply Box.drewN | with_reducible apply Box.drew | (with_reducible refine Box.newAt ?_ ?_ <;> first | (simp; done) | rfl) | with_reducible apply Box.alloc)) b)
  try clear k0a k0b k0c k0d k0z
  have k0z := K0.out.lt
  obtain ⟨k0a, k0b, k0c, k0d⟩ := K0.out.cell
  try clear k1a k1b k1c k1d k1z
  have k1z := K1.out.lt
  obtain ⟨k1a, k1b, k1c, k1d⟩ := K1.out.cell
  try clear k2a k2b k2c k2d k2z
  have k2z := K2.out.lt
  obtain ⟨k2a, k2b, k2c, k2d⟩ := K2.out.cell
  try clear k3a k3b k3c k3d k3z
  have k3z := K3.out.lt
  obtain ⟨k3a, k3b, k3c, k3d⟩ := K3.out.cell
  clear b
  have O0 := Lib.hid (OwnN.empty wa w.heap.size HB.out.size)
  go_upto_region 2 with fail
  obtain ⟨wb, ew, b⟩ : ∃ wOPN : World, wOPN = (wa.alloc (.cells #[] 25)) ∧ Below ((wa.alloc (.cells #[] 25))).heap.size ((wa.alloc (.cells #[] 25))) wOPN := ⟨_, rfl, Below.refl _ _⟩
  rw [← ew]
  clear ew
  have Swb := Lib.hid b.size
  have HB := Lib.hid (chain0 (w := w) (by repeat (first | with_reducible exact Below.refl _ _ | with_reducible exact HB.out | with_reducible apply Below.drew | with_reducible apply bdN | with_reducible refine Below.alloc ?_ (by first | exact Nat.le_refl _ | with_reducible exact HB.out.size | omega | (simp; done) | (simp; omega) | (have := HB.out.size; simp at *; omega)) _ | with_reducible refine Below.setCell ?_ (by first | exact Nat.le_refl _ | with_reducible exact HB.out.size | omega | (simp; done) | (simp; omega) | (have := HB.out.size; simp at *; omega)) _)) b)
  have O0 := Lib.hid (OwnN.below (by repeat (first | with_reducible exact O0.out | with_reducible apply OwnN.drewN | with_reducible apply OwnN.drew | with_reducible apply OwnN.alloc)) b)
  have K0 : Hid (Box _ (w.heap.size) (x)) := Lib.hid (Box.below (by repeat (first | with_reducible exact K0.out | with_reducible apply Box.drewN | with_reducible apply Box.drew | (with_reducible refine Box.newAt ?_ ?_ <;> first | (simp; done) | rfl) | with_reducible apply Box.alloc)) b)
  have K1 : Hid (Box _ (w.heap.size + 1) (y)) := Lib.hid (Box.below (by repeat (first | with_reducible exact K1.out | with_reducible apply Box.drewN | with_reducible apply Box.drew | (with_reducible refine Box.newAt ?_ ?_ <;> first | (simp; done) | rfl) | with_reducible apply Box.alloc)) b)
  have K2 : Hid (Box _ (w.heap.size + 1 + 1) (z)) := Lib.hid (Box.below (by repeat (first | with_reducible exact K2.out | with_reducible apply Box.drewN | with_reducible apply Box.drew | (with_reducible refine Box.newAt ?_ ?_ <;> first | (simp; done) | rfl) | with_reducible apply Box.alloc)) b)
  have K3 : Hid (Box _ (w.heap.size + 1 + 1 + 1) (t)) := Lib.hid (Box.below (by repeat (first | with_reducible exact K3.out | with_reducible apply Box.drewN | with_reducible apply Box.drew | (with_reducible refine Box.newAt ?_ ?_ <;> first | (simp; done) | rfl) | with_reducible apply Box.alloc)) b)
  try clear k0a k0b k0c k0d k0z
  have k0z := K0.out.lt
  obtain ⟨k0a, k0b, k0c, k0d⟩ := K0.out.cell
  try clear k1a k1b k1c k1d k1z
  have k1z := K1.out.lt
  obtain ⟨k1a, k1b, k1c, k1d⟩ := K1.out.cell
  try clear k2a k2b k2c k2d k2z
  have k2z := K2.out.lt
  obtain ⟨k2a, k2b, k2c, k2d⟩ := K2.out.cell
  try clear k3a k3b k3c k3d k3z
  have k3z := K3.out.lt
  obtain ⟨k3a, k3b, k3c, k3d⟩ := K3.out.cell
  clear b
  obtain ⟨g, hg⟩ : ∃ g, wa.heap.size = g := ⟨_, rfl⟩
  rw [hg] at O0
  try rw [hg]
  clear hg
  have qk0a := fun d os => cell_regrown k0a d os
  have qk0b := fun d os => cell_regrown k0b d os
  have qk0c := fun d os => cell_regrown k0c d os
  have qk0d := fun d os => cell_regrown k0d d os
  have qk1a := fun d os => cell_regrown k1a d os
  have qk1b := fun d os => cell_regrown k1b d os
  have qk1c := fun d os => cell_regrown k1c d os
  have qk1d := fun d os => cell_regrown k1d d os
  have qk2a := fun d os => cell_regrown k2a d os
  have qk2b := fun d os => cell_regrown k2b d os
  have qk2c := fun d os => cell_regrown k2c d os
  have qk2d := fun d os => cell_regrown k2d d os
  have qk3a := fun d os => cell_regrown k3a d os
  have qk3b := fun d os => cell_regrown k3b d os
  have qk3c := fun d os => cell_regrown k3c d os
  have qk3d := fun d os => cell_regrown k3d d os
  refine wp_region_quiet_below (by kernel_rfl) (by kernel_rfl) ?_
  repeat (first | go_big_quiet_step ((first | (go_at_call 83; with_reducible exact Calls.regrown_of (l2_third _ _ _ HXx.out HXy.out)) | (go_at_call 83; with_reducible exact Calls.regrown_of (l2_third _ _ _ HXz.out HXt.out)))) | quiet_step ((first | (go_at_call 83; with_reducible exact Calls.regrown_of (l2_third _ _ _ HXx.out HXy.out)) | (go_at_call 83; with_reducible exact Calls.regrown_of (l2_third _ _ _ HXz.out HXt.out)))))
  refine wpQuiet_nil ?_
  intro w0 hw2
  have b : Below wb.heap.size wb w0 := by obtain ⟨r, hr⟩ := hw2; rw [hr]; exact below_regrown _ _ _
  clear hw2 qk0a qk0b qk0c qk0d qk1a qk1b qk1c qk1d qk2a qk2b qk2c qk2d qk3a qk3b qk3c qk3d
  have Sw0 := Lib.hid b.size
  have HB := Lib.hid (chain0 (w := w) (by repeat (first | with_reducible exact Below.refl _ _ | with_reducible exact HB.out | with_reducible apply Below.drew | with_reducible apply bdN | with_reducible refine Below.alloc ?_ (by first | exact Nat.le_refl _ | with_reducible exact HB.out.size | omega | (simp; done) | (simp; omega) | (have := HB.out.size; simp at *; omega)) _ | with_reducible refine Below.setCell ?_ (by first | exact Nat.le_refl _ | with_reducible exact HB.out.size | omega | (simp; done) | (simp; omega) | (have := HB.out.size; simp at *; omega)) _)) b)
  have O0 := Lib.hid (OwnN.below (by repeat (first | with_reducible exact O0.out | with_reducible apply OwnN.drewN | with_reducible apply OwnN.drew | with_reducible apply OwnN.alloc)) b)
  have K0 : Hid (Box _ (w.heap.size) (x)) := Lib.hid (Box.below (by repeat (first | with_reducible exact K0.out | with_reducible apply Box.drewN | with_reducible apply Box.drew | (with_reducible refine Box.newAt ?_ ?_ <;> first | (simp; done) | rfl) | with_reducible apply Box.alloc)) b)
  have K1 : Hid (Box _ (w.heap.size + 1) (y)) := Lib.hid (Box.below (by repeat (first | with_reducible exact K1.out | with_reducible apply Box.drewN | with_reducible apply Box.drew | (with_reducible refine Box.newAt ?_ ?_ <;> first | (simp; done) | rfl) | with_reducible apply Box.alloc)) b)
  have K2 : Hid (Box _ (w.heap.size + 1 + 1) (z)) := Lib.hid (Box.below (by repeat (first | with_reducible exact K2.out | with_reducible apply Box.drewN | with_reducible apply Box.drew | (with_reducible refine Box.newAt ?_ ?_ <;> first | (simp; done) | rfl) | with_reducible apply Box.alloc)) b)
  have K3 : Hid (Box _ (w.heap.size + 1 + 1 + 1) (t)) := Lib.hid (Box.below (by repeat (first | with_reducible exact K3.out | with_reducible apply Box.drewN | with_reducible apply Box.drew | (with_reducible refine Box.newAt ?_ ?_ <;> first | (simp; done) | rfl) | with_reducible apply Box.alloc)) b)
  try clear k0a k0b k0c k0d k0z
  have k0z := K0.out.lt
  obtain ⟨k0a, k0b, k0c, k0d⟩ := K0.out.cell
  try clear k1a k1b k1c k1d k1z
  have k1z := K1.out.lt
  obtain ⟨k1a, k1b, k1c, k1d⟩ := K1.out.cell
  try clear k2a k2b k2c k2d k2z
  have k2z := K2.out.lt
  obtain ⟨k2a, k2b, k2c, k2d⟩ := K2.out.cell
  try clear k3a k3b k3c k3d k3z
  have k3z := K3.out.lt
  obtain ⟨k3a, k3b, k3c, k3d⟩ := K3.out.cell
  clear b
  go_wp2_with fail
  have qk0a := fun d os => cell_regrown k0a d os
  have qk0b := fun d os => cell_regrown k0b d os
  have qk0c := fun d os => cell_regrown k0c d os
  have qk0d := fun d os => cell_regrown k0d d os
  have qk1a := fun d os => cell_regrown k1a d os
  have qk1b := fun d os => cell_regrown k1b d os
  have qk1c := fun d os => cell_regrown k1c d os
  have qk1d := fun d os => cell_regrown k1d d os
  have qk2a := fun d os => cell_regrown k2a d os
  have qk2b := fun d os => cell_regrown k2b d os
  have qk2c := fun d os => cell_regrown k2c d os
  have qk2d := fun d os => cell_regrown k2d d os
  have qk3a := fun d os => cell_regrown k3a d os
  have qk3b := fun d os => cell_regrown k3b d os
  have qk3c := fun d os => cell_regrown k3c d os
  have qk3d := fun d os => cell_regrown k3d d os
  refine wp_region_quiet_below (by kernel_rfl) (by kernel_rfl) ?_
  repeat (first | go_big_quiet_step ((first | (go_at_call 83; with_reducible exact Calls.regrown_of (l2_third _ _ _ HXx.out HXz.out)) | (go_at_call 83; with_reducible exact Calls.regrown_of (l2_third _ _ _ HXy.out HXt.out)))) | quiet_step ((first | (go_at_call 83; with_reducible exact Calls.regrown_of (l2_third _ _ _ HXx.out HXz.out)) | (go_at_call 83; with_reducible exact Calls.regrown_of (l2_third _ _ _ HXy.out HXt.out)))))
  refine wpQuiet_nil ?_
  intro w1 hw2
  have b : Below w0.heap.size w0 w1 := by obtain ⟨r, hr⟩ := hw2; rw [hr]; exact below_regrown _ _ _
  clear hw2 qk0a qk0b qk0c qk0d qk1a qk1b qk1c qk1d qk2a qk2b qk2c qk2d qk3a qk3b qk3c qk3d
  have Sw1 := Lib.hid b.size
  have HB := Lib.hid (chain0 (w := w) (by repeat (first | with_reducible exact Below.refl _ _ | with_reducible exact HB.out | with_reducible apply Below.drew | with_reducible apply bdN | with_reducible refine Below.alloc ?_ (by first | exact Nat.le_refl _ | with_reducible exact HB.out.size | omega | (simp; done) | (simp; omega) | (have := HB.out.size; simp at *; omega)) _ | with_reducible refine Below.setCell ?_ (by first | exact Nat.le_refl _ | with_reducible exact HB.out.size | omega | (simp; done) | (simp; omega) | (have := HB.out.size; simp at *; omega)) _)) b)
  have O0 := Lib.hid (OwnN.below (by repeat (first | with_reducible exact O0.out | with_reducible apply OwnN.drewN | with_reducible apply OwnN.drew | with_reducible apply OwnN.alloc)) b)
  have K0 : Hid (Box _ (w.heap.size) (x)) := Lib.hid (Box.below (by repeat (first | with_reducible exact K0.out | with_reducible apply Box.drewN | with_reducible apply Box.drew | (with_reducible refine Box.newAt ?_ ?_ <;> first | (simp; done) | rfl) | with_reducible apply Box.alloc)) b)
  have K1 : Hid (Box _ (w.heap.size + 1) (y)) := Lib.hid (Box.below (by repeat (first | with_reducible exact K1.out | with_reducible apply Box.drewN | with_reducible apply Box.drew | (with_reducible refine Box.newAt ?_ ?_ <;> first | (simp; done) | rfl) | with_reducible apply Box.alloc)) b)
  have K2 : Hid (Box _ (w.heap.size + 1 + 1) (z)) := Lib.hid (Box.below (by repeat (first | with_reducible exact K2.out | with_reducible apply Box.drewN | with_reducible apply Box.drew | (with_reducible refine Box.newAt ?_ ?_ <;> first | (simp; done) | rfl) | with_reducible apply Box.alloc)) b)
  have K3 : Hid (Box _ (w.heap.size + 1 + 1 + 1) (t)) := Lib.hid (Box.below (by repeat (first | with_reducible exact K3.out | with_reducible apply Box.drewN | with_reducible apply Box.drew | (with_reducible refine Box.newAt ?_ ?_ <;> first | (simp; done) | rfl) | with_reducible apply Box.alloc)) b)
  try clear k0a k0b k0c k0d k0z
  have k0z := K0.out.lt
  obtain ⟨k0a, k0b, k0c, k0d⟩ := K0.out.cell
  try clear k1a k1b k1c k1d k1z
  have k1z := K1.out.lt
  obtain ⟨k1a, k1b, k1c, k1d⟩ := K1.out.cell
  try clear k2a k2b k2c k2d k2z
  have k2z := K2.out.lt
  obtain ⟨k2a, k2b, k2c, k2d⟩ := K2.out.cell
  try clear k3a k3b k3c k3d k3z
  have k3z := K3.out.lt
  obtain ⟨k3a, k3b, k3c, k3d⟩ := K3.out.cell
  clear b
  go_wp2_with fail
  refine ((l2_third x z _ HXx.out HXz.out)).mono ?_
  rintro e w2 ⟨rfl, b⟩
  have Sw2 := Lib.hid b.size
  have HB := Lib.hid (chain0 (w := w) (by repeat (first | with_reducible exact Below.refl _ _ | with_reducible exact HB.out | with_reducible apply Below.drew | with_reducible apply bdN | with_reducible refine Below.alloc ?_ (by first | exact Nat.le_refl _ | with_reducible exact HB.out.size | omega | (simp; done) | (simp; omega) | (have := HB.out.size; simp at *; omega)) _ | with_reducible refine Below.setCell ?_ (by first | exact Nat.le_refl _ | with_reducible exact HB.out.size | omega | (simp; done) | (simp; omega) | (have := HB.out.size; simp at *; omega)) _)) b)
  have O0 := Lib.hid (OwnN.below (by repeat (first | with_reducible exact O0.out | with_reducible apply OwnN.drewN | with_reducible apply OwnN.drew | with_reducible apply OwnN.alloc)) b)
  have K0 : Hid (Box _ (w.heap.size) (x)) := Lib.hid (Box.below (by repeat (first | with_reducible exact K0.out | with_reducible apply Box.drewN | with_reducible apply Box.drew | (with_reducible refine Box.newAt ?_ ?_ <;> first | (simp; done) | rfl) | with_reducible apply Box.alloc)) b)
  have K1 : Hid (Box _ (w.heap.size + 1) (y)) := Lib.hid (Box.below (by repeat (first | with_reducible exact K1.out | with_reducible apply Box.drewN | with_reducible apply Box.drew | (with_reducible refine Box.newAt ?_ ?_ <;> first | (simp; done) | rfl) | with_reducible apply Box.alloc)) b)
  have K2 : Hid (Box _ (w.heap.size + 1 + 1) (z)) := Lib.hid (Box.below (by repeat (first | with_reducible exact K2.out | with_reducible apply Box.drewN | with_reducible apply Box.drew | (with_reducible refine Box.newAt ?_ ?_ <;> first | (simp; done) | rfl) | with_reducible apply Box.alloc)) b)
  have K3 : Hid (Box _ (w.heap.size + 1 + 1 + 1) (t)) := Lib.hid (Box.below (by repeat (first | with_reducible exact K3.out | with_reducible apply Box.drewN | with_reducible apply Box.drew | (with_reducible refine Box.newAt ?_ ?_ <;> first | (simp; done) | rfl) | with_reducible apply Box.alloc)) b)
  try clear k0a k0b k0c k0d k0z
  have k0z := K0.out.lt
  obtain ⟨k0a, k0b, k0c, k0d⟩ := K0.out.cell
  try clear k1a k1b k1c k1d k1z
  have k1z := K1.out.lt
  obtain ⟨k1a, k1b, k1c, k1d⟩ := K1.out.cell
  try clear k2a k2b k2c k2d k2z
  have k2z := K2.out.lt
  obtain ⟨k2a, k2b, k2c, k2d⟩ := K2.out.cell
  try clear k3a k3b k3c k3d k3z
  have k3z := K3.out.lt
  obtain ⟨k3a, k3b, k3c, k3d⟩ := K3.out.cell
  clear b
  go_wp2_with fail
  refine (l2_put [] (third x z) g 0 0 0 _ rfl (by omega) (by omega) (fun h => by simp [flat] at h) rfl (third_ok _ _) (List.Pairwise.nil)).mono ?_
  rintro e w3 ⟨u, rfl, hu, b1⟩
  rw [put_nil] at hu
  have b := b1
  have O1 := Lib.hid (OwnN.own (OwnN.base hu HB.out.size))
  have Sw3 := Lib.hid b.size
  have HB := Lib.hid (chain0 (w := w) (by repeat (first | with_reducible exact Below.refl _ _ | with_reducible exact HB.out | with_reducible apply Below.drew | with_reducible apply bdN | with_reducible refine Below.alloc ?_ (by first | exact Nat.le_refl _ | with_reducible exact HB.out.size | omega | (simp; done) | (simp; omega) | (have := HB.out.size; simp at *; omega)) _ | with_reducible refine Below.setCell ?_ (by first | exact Nat.le_refl _ | with_reducible exact HB.out.size | omega | (simp; done) | (simp; omega) | (have := HB.out.size; simp at *; omega)) _)) b)
  have K0 : Hid (Box _ (w.heap.size) (x)) := Lib.hid (Box.below (by repeat (first | with_reducible exact K0.out | with_reducible apply Box.drewN | with_reducible apply Box.drew | (with_reducible refine Box.newAt ?_ ?_ <;> first | (simp; done) | rfl) | with_reducible apply Box.alloc)) b)
  have K1 : Hid (Box _ (w.heap.size + 1) (y)) := Lib.hid (Box.below (by repeat (first | with_reducible exact K1.out | with_reducible apply Box.drewN | with_reducible apply Box.drew | (with_reducible refine Box.newAt ?_ ?_ <;> first | (simp; done) | rfl) | with_reducible apply Box.alloc)) b)
  have K2 : Hid (Box _ (w.heap.size + 1 + 1) (z)) := Lib.hid (Box.below (by repeat (first | with_reducible exact K2.out | with_reducible apply Box.drewN | with_reducible apply Box.drew | (with_reducible refine Box.newAt ?_ ?_ <;> first | (simp; done) | rfl) | with_reducible apply Box.alloc)) b)
  have K3 : Hid (Box _ (w.heap.size + 1 + 1 + 1) (t)) := Lib.hid (Box.below (by repeat (first | with_reducible exact K3.out | with_reducible apply Box.drewN | with_reducible apply Box.drew | (with_reducible refine Box.newAt ?_ ?_ <;> first | (simp; done) | rfl) | with_reducible apply Box.alloc)) b)
  try clear k0a k0b k0c k0d k0z
  have k0z := K0.out.lt
  obtain ⟨k0a, k0b, k0c, k0d⟩ := K0.out.cell
  try clear k1a k1b k1c k1d k1z
  have k1z := K1.out.lt
  obtain ⟨k1a, k1b, k1c, k1d⟩ := K1.out.cell
  try clear k2a k2b k2c k2d k2z
  have k2z := K2.out.lt
  obtain ⟨k2a, k2b, k2c, k2d⟩ := K2.out.cell
  try clear k3a k3b k3c k3d k3z
  have k3z := K3.out.lt
  obtain ⟨k3a, k3b, k3c, k3d⟩ := K3.out.cell
  clear b
  clear hu b1
  go_wp2_with fail
  have qk0a := fun d os => cell_regrown k0a d os
  have qk0b := fun d os => cell_regrown k0b d os
  have qk0c := fun d os => cell_regrown k0c d os
  have qk0d := fun d os => cell_regrown k0d d os
  have qk1a := fun d os => cell_regrown k1a d os
  have qk1b := fun d os => cell_regrown k1b d os
  have qk1c := fun d os => cell_regrown k1c d os
  have qk1d := fun d os => cell_regrown k1d d os
  have qk2a := fun d os => cell_regrown k2a d os
  have qk2b := fun d os => cell_regrown k2b d os
  have qk2c := fun d os => cell_regrown k2c d os
  have qk2d := fun d os => cell_regrown k2d d os
  have qk3a := fun d os => cell_regrown k3a d os
  have qk3b := fun d os => cell_regrown k3b d os
  have qk3c := fun d os => cell_regrown k3c d os
  have qk3d := fun d os => cell_regrown k3d d os
  refine wp_region_quiet_below (by kernel_rfl) (by kernel_rfl) ?_
  repeat (first | go_big_quiet_step ((first | (go_at_call 83; with_reducible exact Calls.regrown_of (l2_third _ _ _ HXx.out HXt.out)) | (go_at_call 83; with_reducible exact Calls.regrown_of (l2_third _ _ _ HXy.out HXz.out)))) | quiet_step ((first | (go_at_call 83; with_reducible exact Calls.regrown_of (l2_third _ _ _ HXx.out HXt.out)) | (go_at_call 83; with_reducible exact Calls.regrown_of (l2_third _ _ _ HXy.out HXz.out)))))
  refine wpQuiet_nil ?_
  intro w4 hw2
  have b : Below w3.heap.size w3 w4 := by obtain ⟨r, hr⟩ := hw2; rw [hr]; exact below_regrown _ _ _
  clear hw2 qk0a qk0b qk0c qk0d qk1a qk1b qk1c qk1d qk2a qk2b qk2c qk2d qk3a qk3b qk3c qk3d
  have Sw4 := Lib.hid b.size
  have HB := Lib.hid (chain0 (w := w) (by repeat (first | with_reducible exact Below.refl _ _ | with_reducible exact HB.out | with_reducible apply Below.drew | with_reducible apply bdN | with_reducible refine Below.alloc ?_ (by first | exact Nat.le_refl _ | with_reducible exact HB.out.size | omega | (simp; done) | (simp; omega) | (have := HB.out.size; simp at *; omega)) _ | with_reducible refine Below.setCell ?_ (by first | exact Nat.le_refl _ | with_reducible exact HB.out.size | omega | (simp; done) | (simp; omega) | (have := HB.out.size; simp at *; omega)) _)) b)
  have O1 := Lib.hid (Own.below (by repeat (first | with_reducible exact O1.out | with_reducible apply Own.drewN | with_reducible apply Own.drew | with_reducible apply Own.alloc)) b)
  have K0 : Hid (Box _ (w.heap.size) (x)) := Lib.hid (Box.below (by repeat (first | with_reducible exact K0.out | with_reducible apply Box.drewN | with_reducible apply Box.drew | (with_reducible refine Box.newAt ?_ ?_ <;> first | (simp; done) | rfl) | with_reducible apply Box.alloc)) b)
  have K1 : Hid (Box _ (w.heap.size + 1) (y)) := Lib.hid (Box.below (by repeat (first | with_reducible exact K1.out | with_reducible apply Box.drewN | with_reducible apply Box.drew | (with_reducible refine Box.newAt ?_ ?_ <;> first | (simp; done) | rfl) | with_reducible apply Box.alloc)) b)
  have K2 : Hid (Box _ (w.heap.size + 1 + 1) (z)) := Lib.hid (Box.below (by repeat (first | with_reducible exact K2.out | with_reducible apply Box.drewN | with_reducible apply Box.drew | (with_reducible refine Box.newAt ?_ ?_ <;> first | (simp; done) | rfl) | with_reducible apply Box.alloc)) b)
  have K3 : Hid (Box _ (w.heap.size + 1 + 1 + 1) (t)) := Lib.hid (Box.below (by repeat (first | with_reducible exact K3.out | with_reducible apply Box.drewN | with_reducible apply Box.drew | (with_reducible refine Box.newAt ?_ ?_ <;> first | (simp; done) | rfl) | with_reducible apply Box.alloc)) b)
  try clear k0a k0b k0c k0d k0z
  have k0z := K0.out.lt
  obtain ⟨k0a, k0b, k0c, k0d⟩ := K0.out.cell
  try clear k1a k1b k1c k1d k1z
  have k1z := K1.out.lt
  obtain ⟨k1a, k1b, k1c, k1d⟩ := K1.out.cell
  try clear k2a k2b k2c k2d k2z
  have k2z := K2.out.lt
  obtain ⟨k2a, k2b, k2c, k2d⟩ := K2.out.cell
  try clear k3a k3b k3c k3d k3z
  have k3z := K3.out.lt
  obtain ⟨k3a, k3b, k3c, k3d⟩ := K3.out.cell
  clear b
  go_wp2_with fail
  go_ret
  exact ⟨_, rfl, O1.out, HB.out⟩

set_option maxRecDepth 100000 in
set_option maxHeartbeats 8000000 in
theorem l10_mid3 (x y z t : Cd) (w : World) (ha : x.ok = true) (hb : y.ok = true) (hc : z.ok = true) (hd : t.ok = true) (q1 : same (third x y) (third z t) = false) (q2 : same (third x z) (third y t) = false) (q3 : same (third x t) (third y z) = true) :
    Calls Try.prog 53 #[x.val, y.val, z.val, t.val] w fun e w' => ∃ u, e = .returned u ∧ Own w' w.heap.size u [third x t] ∧ Below w.heap.size w w' := by
  have he1 := eq_run (third x y) (third z t) (third_ok _ _) (third_ok _ _)
  rw [q1] at he1
  have he2 := eq_run (third x z) (third y t) (third_ok _ _) (third_ok _ _)
  rw [q2] at he2
  have he3 := eq_run (third x t) (third y z) (third_ok _ _) (third_ok _ _)
  rw [q3] at he3
  have HXx := Lib.hid ha
  have HXy := Lib.hid hb
  have HXz := Lib.hid hc
  have HXt := Lib.hid hd
  clear ha hb hc hd q1 q2 q3
  go_enter Try.func53, Try.ntmps53
  go_upto_region 1 with fail
  obtain ⟨wa, ew, b⟩ : ∃ wOPN : World, wOPN = ((((w.alloc x.obj).alloc y.obj).alloc z.obj).alloc t.obj) ∧ Below (((((w.alloc x.obj).alloc y.obj).alloc z.obj).alloc t.obj)).heap.size (((((w.alloc x.obj).alloc y.obj).alloc z.obj).alloc t.obj)) wOPN := ⟨_, rfl, Below.refl _ _⟩
  rw [← ew]
  clear ew
  have Swa := Lib.hid b.size
  have HB := Lib.hid (chain0 (w := w) (by repeat (first | with_reducible exact Below.refl _ _ | with_reducible exact HB.out | with_reducible apply Below.drew | with_reducible apply bdN | with_reducible refine Below.alloc ?_ (by first | exact Nat.le_refl _ | with_reducible exact HB.out.size | omega | (simp; done) | (simp; omega) | (have := HB.out.size; simp at *; omega)) _ | with_reducible refine Below.setCell ?_ (by first | exact Nat.le_refl _ | with_reducible exact HB.out.size | omega | (simp; done) | (simp; omega) | (have := HB.out.size; simp at *; omega)) _)) b)
  have K0 : Hid (Box _ (w.heap.size) (x)) := Lib.hid (Box.below (by repeat (first | with_reducible exact K0.out | with_reducible apply Box.drewN | with_reducible apply Box.drew | (with_reducible refine Box.newAt ?_ ?_ <;> first | (simp; done) | rfl) | with_reducible apply Box.alloc)) b)
  have K1 : Hid (Box _ (w.heap.size + 1) (y)) := Lib.hid (Box.below (by repeat (first | with_reducible exact K1.out | with_reducible apply Box.drewN | with_reducible apply Box.drew | (with_reducible refine Box.newAt ?_ ?_ <;> first | (simp; done) | rfl) | with_reducible apply Box.alloc)) b)
  have K2 : Hid (Box _ (w.heap.size + 1 + 1) (z)) := Lib.hid (Box.below (by repeat (first | with_reducible exact K2.out | with_reducible apply Box.drewN | with_reducible apply Box.drew | (with_reducible refine Box.newAt ?_ ?_ <;> first | (simp; done) | rfl) | with_reducible apply Box.alloc)) b)
  have K3 : Hid (Box _ (w.heap.size + 1 + 1 + 1) (t)) := Lib.hid (Box.below (by repeat (first | with_reducible exact K3.out | with_reducible apply Box.drewN | with_reducible apply Box.drew | (with_reducible refine Box.newAt ?_ ?_ <;> first | (simp; done) | rfl) | with_reducible apply Box.alloc)) b)
  try clear k0a k0b k0c k0d k0z
  have k0z := K0.out.lt
  obtain ⟨k0a, k0b, k0c, k0d⟩ := K0.out.cell
  try clear k1a k1b k1c k1d k1z
  have k1z := K1.out.lt
  obtain ⟨k1a, k1b, k1c, k1d⟩ := K1.out.cell
  try clear k2a k2b k2c k2d k2z
  have k2z := K2.out.lt
  obtain ⟨k2a, k2b, k2c, k2d⟩ := K2.out.cell
  try clear k3a k3b k3c k3d k3z
  have k3z := K3.out.lt
  obtain ⟨k3a, k3b, k3c, k3d⟩ := K3.out.cell
  clear b
  have O0 := Lib.hid (OwnN.empty wa w.heap.size HB.out.size)
  go_upto_region 2 with fail
  obtain ⟨wb, ew, b⟩ : ∃ wOPN : World, wOPN = (wa.alloc (.cells #[] 25)) ∧ Below ((wa.alloc (.cells #[] 25))).heap.size ((wa.alloc (.cells #[] 25))) wOPN := ⟨_, rfl, Below.refl _ _⟩
  rw [← ew]
  clear ew
  have Swb := Lib.hid b.size
  have HB := Lib.hid (chain0 (w := w) (by repeat (first | with_reducible exact Below.refl _ _ | with_reducible exact HB.out | with_reducible apply Below.drew | with_reducible apply bdN | with_reducible refine Below.alloc ?_ (by first | exact Nat.le_refl _ | with_reducible exact HB.out.size | omega | (simp; done) | (simp; omega) | (have := HB.out.size; simp at *; omega)) _ | with_reducible refine Below.setCell ?_ (by first | exact Nat.le_refl _ | with_reducible exact HB.out.size | omega | (simp; done) | (simp; omega) | (have := HB.out.size; simp at *; omega)) _)) b)
  have O0 := Lib.hid (OwnN.below (by repeat (first | with_reducible exact O0.out | with_reducible apply OwnN.drewN | with_reducible apply OwnN.drew | with_reducible apply OwnN.alloc)) b)
  have K0 : Hid (Box _ (w.heap.size) (x)) := Lib.hid (Box.below (by repeat (first | with_reducible exact K0.out | with_reducible apply Box.drewN | with_reducible apply Box.drew | (with_reducible refine Box.newAt ?_ ?_ <;> first | (simp; done) | rfl) | with_reducible apply Box.alloc)) b)
  have K1 : Hid (Box _ (w.heap.size + 1) (y)) := Lib.hid (Box.below (by repeat (first | with_reducible exact K1.out | with_reducible apply Box.drewN | with_reducible apply Box.drew | (with_reducible refine Box.newAt ?_ ?_ <;> first | (simp; done) | rfl) | with_reducible apply Box.alloc)) b)
  have K2 : Hid (Box _ (w.heap.size + 1 + 1) (z)) := Lib.hid (Box.below (by repeat (first | with_reducible exact K2.out | with_reducible apply Box.drewN | with_reducible apply Box.drew | (with_reducible refine Box.newAt ?_ ?_ <;> first | (simp; done) | rfl) | with_reducible apply Box.alloc)) b)
  have K3 : Hid (Box _ (w.heap.size + 1 + 1 + 1) (t)) := Lib.hid (Box.below (by repeat (first | with_reducible exact K3.out | with_reducible apply Box.drewN | with_reducible apply Box.drew | (with_reducible refine Box.newAt ?_ ?_ <;> first | (simp; done) | rfl) | with_reducible apply Box.alloc)) b)
  try clear k0a k0b k0c k0d k0z
  have k0z := K0.out.lt
  obtain ⟨k0a, k0b, k0c, k0d⟩ := K0.out.cell
  try clear k1a k1b k1c k1d k1z
  have k1z := K1.out.lt
  obtain ⟨k1a, k1b, k1c, k1d⟩ := K1.out.cell
  try clear k2a k2b k2c k2d k2z
  have k2z := K2.out.lt
  obtain ⟨k2a, k2b, k2c, k2d⟩ := K2.out.cell
  try clear k3a k3b k3c k3d k3z
  have k3z := K3.out.lt
  obtain ⟨k3a, k3b, k3c, k3d⟩ := K3.out.cell
  clear b
  obtain ⟨g, hg⟩ : ∃ g, wa.heap.size = g := ⟨_, rfl⟩
  rw [hg] at O0
  try rw [hg]
  clear hg
  have qk0a := fun d os => cell_regrown k0a d os
  have qk0b := fun d os => cell_regrown k0b d os
  have qk0c := fun d os => cell_regrown k0c d os
  have qk0d := fun d os => cell_regrown k0d d os
  have qk1a := fun d os => cell_regrown k1a d os
  have qk1b := fun d os => cell_regrown k1b d os
  have qk1c := fun d os => cell_regrown k1c d os
  have qk1d := fun d os => cell_regrown k1d d os
  have qk2a := fun d os => cell_regrown k2a d os
  have qk2b := fun d os => cell_regrown k2b d os
  have qk2c := fun d os => cell_regrown k2c d os
  have qk2d := fun d os => cell_regrown k2d d os
  have qk3a := fun d os => cell_regrown k3a d os
  have qk3b := fun d os => cell_regrown k3b d os
  have qk3c := fun d os => cell_regrown k3c d os
  have qk3d := fun d os => cell_regrown k3d d os
  refine wp_region_quiet_below (by kernel_rfl) (by kernel_rfl) ?_
  repeat (first | go_big_quiet_step ((first | (go_at_call 83; with_reducible exact Calls.regrown_of (l2_third _ _ _ HXx.out HXy.out)) | (go_at_call 83; with_reducible exact Calls.regrown_of (l2_third _ _ _ HXz.out HXt.out)))) | quiet_step ((first | (go_at_call 83; with_reducible exact Calls.regrown_of (l2_third _ _ _ HXx.out HXy.out)) | (go_at_call 83; with_reducible exact Calls.regrown_of (l2_third _ _ _ HXz.out HXt.out)))))
  refine wpQuiet_nil ?_
  intro w0 hw2
  have b : Below wb.heap.size wb w0 := by obtain ⟨r, hr⟩ := hw2; rw [hr]; exact below_regrown _ _ _
  clear hw2 qk0a qk0b qk0c qk0d qk1a qk1b qk1c qk1d qk2a qk2b qk2c qk2d qk3a qk3b qk3c qk3d
  have Sw0 := Lib.hid b.size
  have HB := Lib.hid (chain0 (w := w) (by repeat (first | with_reducible exact Below.refl _ _ | with_reducible exact HB.out | with_reducible apply Below.drew | with_reducible apply bdN | with_reducible refine Below.alloc ?_ (by first | exact Nat.le_refl _ | with_reducible exact HB.out.size | omega | (simp; done) | (simp; omega) | (have := HB.out.size; simp at *; omega)) _ | with_reducible refine Below.setCell ?_ (by first | exact Nat.le_refl _ | with_reducible exact HB.out.size | omega | (simp; done) | (simp; omega) | (have := HB.out.size; simp at *; omega)) _)) b)
  have O0 := Lib.hid (OwnN.below (by repeat (first | with_reducible exact O0.out | with_reducible apply OwnN.drewN | with_reducible apply OwnN.drew | with_reducible apply OwnN.alloc)) b)
  have K0 : Hid (Box _ (w.heap.size) (x)) := Lib.hid (Box.below (by repeat (first | with_reducible exact K0.out | with_reducible apply Box.drewN | with_reducible apply Box.drew | (with_reducible refine Box.newAt ?_ ?_ <;> first | (simp; done) | rfl) | with_reducible apply Box.alloc)) b)
  have K1 : Hid (Box _ (w.heap.size + 1) (y)) := Lib.hid (Box.below (by repeat (first | with_reducible exact K1.out | with_reducible apply Box.drewN | with_reducible apply Box.drew | (with_reducible refine Box.newAt ?_ ?_ <;> first | (simp; done) | rfl) | with_reducible apply Box.alloc)) b)
  have K2 : Hid (Box _ (w.heap.size + 1 + 1) (z)) := Lib.hid (Box.below (by repeat (first | with_reducible exact K2.out | with_reducible apply Box.drewN | with_reducible apply Box.drew | (with_reducible refine Box.newAt ?_ ?_ <;> first | (simp; done) | rfl) | with_reducible apply Box.alloc)) b)
  have K3 : Hid (Box _ (w.heap.size + 1 + 1 + 1) (t)) := Lib.hid (Box.below (by repeat (first | with_reducible exact K3.out | with_reducible apply Box.drewN | with_reducible apply Box.drew | (with_reducible refine Box.newAt ?_ ?_ <;> first | (simp; done) | rfl) | with_reducible apply Box.alloc)) b)
  try clear k0a k0b k0c k0d k0z
  have k0z := K0.out.lt
  obtain ⟨k0a, k0b, k0c, k0d⟩ := K0.out.cell
  try clear k1a k1b k1c k1d k1z
  have k1z := K1.out.lt
  obtain ⟨k1a, k1b, k1c, k1d⟩ := K1.out.cell
  try clear k2a k2b k2c k2d k2z
  have k2z := K2.out.lt
  obtain ⟨k2a, k2b, k2c, k2d⟩ := K2.out.cell
  try clear k3a k3b k3c k3d k3z
  have k3z := K3.out.lt
  obtain ⟨k3a, k3b, k3c, k3d⟩ := K3.out.cell
  clear b
  go_wp2_with fail
  have qk0a := fun d os => cell_regrown k0a d os
  have qk0b := fun d os => cell_regrown k0b d os
  have qk0c := fun d os => cell_regrown k0c d os
  have qk0d := fun d os => cell_regrown k0d d os
  have qk1a := fun d os => cell_regrown k1a d os
  have qk1b := fun d os => cell_regrown k1b d os
  have qk1c := fun d os => cell_regrown k1c d os
  have qk1d := fun d os => cell_regrown k1d d os
  have qk2a := fun d os => cell_regrown k2a d os
  have qk2b := fun d os => cell_regrown k2b d os
  have qk2c := fun d os => cell_regrown k2c d os
  have qk2d := fun d os => cell_regrown k2d d os
  have qk3a := fun d os => cell_regrown k3a d os
  have qk3b := fun d os => cell_regrown k3b d os
  have qk3c := fun d os => cell_regrown k3c d os
  have qk3d := fun d os => cell_regrown k3d d os
  refine wp_region_quiet_below (by kernel_rfl) (by kernel_rfl) ?_
  repeat (first | go_big_quiet_step ((first | (go_at_call 83; with_reducible exact Calls.regrown_of (l2_third _ _ _ HXx.out HXz.out)) | (go_at_call 83; with_reducible exact Calls.regrown_of (l2_third _ _ _ HXy.out HXt.out)))) | quiet_step ((first | (go_at_call 83; with_reducible exact Calls.regrown_of (l2_third _ _ _ HXx.out HXz.out)) | (go_at_call 83; with_reducible exact Calls.regrown_of (l2_third _ _ _ HXy.out HXt.out)))))
  refine wpQuiet_nil ?_
  intro w1 hw2
  have b : Below w0.heap.size w0 w1 := by obtain ⟨r, hr⟩ := hw2; rw [hr]; exact below_regrown _ _ _
  clear hw2 qk0a qk0b qk0c qk0d qk1a qk1b qk1c qk1d qk2a qk2b qk2c qk2d qk3a qk3b qk3c qk3d
  have Sw1 := Lib.hid b.size
  have HB := Lib.hid (chain0 (w := w) (by repeat (first | with_reducible exact Below.refl _ _ | with_reducible exact HB.out | with_reducible apply Below.drew | with_reducible apply bdN | with_reducible refine Below.alloc ?_ (by first | exact Nat.le_refl _ | with_reducible exact HB.out.size | omega | (simp; done) | (simp; omega) | (have := HB.out.size; simp at *; omega)) _ | with_reducible refine Below.setCell ?_ (by first | exact Nat.le_refl _ | with_reducible exact HB.out.size | omega | (simp; done) | (simp; omega) | (have := HB.out.size; simp at *; omega)) _)) b)
  have O0 := Lib.hid (OwnN.below (by repeat (first | with_reducible exact O0.out | with_reducible apply OwnN.drewN | with_reducible apply OwnN.drew | with_reducible apply OwnN.alloc)) b)
  have K0 : Hid (Box _ (w.heap.size) (x)) := Lib.hid (Box.below (by repeat (first | with_reducible exact K0.out | with_reducible apply Box.drewN | with_reducible apply Box.drew | (with_reducible refine Box.newAt ?_ ?_ <;> first | (simp; done) | rfl) | with_reducible apply Box.alloc)) b)
  have K1 : Hid (Box _ (w.heap.size + 1) (y)) := Lib.hid (Box.below (by repeat (first | with_reducible exact K1.out | with_reducible apply Box.drewN | with_reducible apply Box.drew | (with_reducible refine Box.newAt ?_ ?_ <;> first | (simp; done) | rfl) | with_reducible apply Box.alloc)) b)
  have K2 : Hid (Box _ (w.heap.size + 1 + 1) (z)) := Lib.hid (Box.below (by repeat (first | with_reducible exact K2.out | with_reducible apply Box.drewN | with_reducible apply Box.drew | (with_reducible refine Box.newAt ?_ ?_ <;> first | (simp; done) | rfl) | with_reducible apply Box.alloc)) b)
  have K3 : Hid (Box _ (w.heap.size + 1 + 1 + 1) (t)) := Lib.hid (Box.below (by repeat (first | with_reducible exact K3.out | with_reducible apply Box.drewN | with_reducible apply Box.drew | (with_reducible refine Box.newAt ?_ ?_ <;> first | (simp; done) | rfl) | with_reducible apply Box.alloc)) b)
  try clear k0a k0b k0c k0d k0z
  have k0z := K0.out.lt
  obtain ⟨k0a, k0b, k0c, k0d⟩ := K0.out.cell
  try clear k1a k1b k1c k1d k1z
  have k1z := K1.out.lt
  obtain ⟨k1a, k1b, k1c, k1d⟩ := K1.out.cell
  try clear k2a k2b k2c k2d k2z
  have k2z := K2.out.lt
  obtain ⟨k2a, k2b, k2c, k2d⟩ := K2.out.cell
  try clear k3a k3b k3c k3d k3z
  have k3z := K3.out.lt
  obtain ⟨k3a, k3b, k3c, k3d⟩ := K3.out.cell
  clear b
  go_wp2_with fail
  have qk0a := fun d os => cell_regrown k0a d os
  have qk0b := fun d os => cell_regrown k0b d os
  have qk0c := fun d os => cell_regrown k0c d os
  have qk0d := fun d os => cell_regrown k0d d os
  have qk1a := fun d os => cell_regrown k1a d os
  have qk1b := fun d os => cell_regrown k1b d os
  have qk1c := fun d os => cell_regrown k1c d os
  have qk1d := fun d os => cell_regrown k1d d os
  have qk2a := fun d os => cell_regrown k2a d os
  have qk2b := fun d os => cell_regrown k2b d os
  have qk2c := fun d os => cell_regrown k2c d os
  have qk2d := fun d os => cell_regrown k2d d os
  have qk3a := fun d os => cell_regrown k3a d os
  have qk3b := fun d os => cell_regrown k3b d os
  have qk3c := fun d os => cell_regrown k3c d os
  have qk3d := fun d os => cell_regrown k3d d os
  refine wp_region_quiet_below (by kernel_rfl) (by kernel_rfl) ?_
  repeat (first | go_big_quiet_step ((first | (go_at_call 83; with_reducible exact Calls.regrown_of (l2_third _ _ _ HXx.out HXt.out)) | (go_at_call 83; with_reducible exact Calls.regrown_of (l2_third _ _ _ HXy.out HXz.out)))) | quiet_step ((first | (go_at_call 83; with_reducible exact Calls.regrown_of (l2_third _ _ _ HXx.out HXt.out)) | (go_at_call 83; with_reducible exact Calls.regrown_of (l2_third _ _ _ HXy.out HXz.out)))))
  refine wpQuiet_nil ?_
  intro w2 hw2
  have b : Below w1.heap.size w1 w2 := by obtain ⟨r, hr⟩ := hw2; rw [hr]; exact below_regrown _ _ _
  clear hw2 qk0a qk0b qk0c qk0d qk1a qk1b qk1c qk1d qk2a qk2b qk2c qk2d qk3a qk3b qk3c qk3d
  have Sw2 := Lib.hid b.size
  have HB := Lib.hid (chain0 (w := w) (by repeat (first | with_reducible exact Below.refl _ _ | with_reducible exact HB.out | with_reducible apply Below.drew | with_reducible apply bdN | with_reducible refine Below.alloc ?_ (by first | exact Nat.le_refl _ | with_reducible exact HB.out.size | omega | (simp; done) | (simp; omega) | (have := HB.out.size; simp at *; omega)) _ | with_reducible refine Below.setCell ?_ (by first | exact Nat.le_refl _ | with_reducible exact HB.out.size | omega | (simp; done) | (simp; omega) | (have := HB.out.size; simp at *; omega)) _)) b)
  have O0 := Lib.hid (OwnN.below (by repeat (first | with_reducible exact O0.out | with_reducible apply OwnN.drewN | with_reducible apply OwnN.drew | with_reducible apply OwnN.alloc)) b)
  have K0 : Hid (Box _ (w.heap.size) (x)) := Lib.hid (Box.below (by repeat (first | with_reducible exact K0.out | with_reducible apply Box.drewN | with_reducible apply Box.drew | (with_reducible refine Box.newAt ?_ ?_ <;> first | (simp; done) | rfl) | with_reducible apply Box.alloc)) b)
  have K1 : Hid (Box _ (w.heap.size + 1) (y)) := Lib.hid (Box.below (by repeat (first | with_reducible exact K1.out | with_reducible apply Box.drewN | with_reducible apply Box.drew | (with_reducible refine Box.newAt ?_ ?_ <;> first | (simp; done) | rfl) | with_reducible apply Box.alloc)) b)
  have K2 : Hid (Box _ (w.heap.size + 1 + 1) (z)) := Lib.hid (Box.below (by repeat (first | with_reducible exact K2.out | with_reducible apply Box.drewN | with_reducible apply Box.drew | (with_reducible refine Box.newAt ?_ ?_ <;> first | (simp; done) | rfl) | with_reducible apply Box.alloc)) b)
  have K3 : Hid (Box _ (w.heap.size + 1 + 1 + 1) (t)) := Lib.hid (Box.below (by repeat (first | with_reducible exact K3.out | with_reducible apply Box.drewN | with_reducible apply Box.drew | (with_reducible refine Box.newAt ?_ ?_ <;> first | (simp; done) | rfl) | with_reducible apply Box.alloc)) b)
  try clear k0a k0b k0c k0d k0z
  have k0z := K0.out.lt
  obtain ⟨k0a, k0b, k0c, k0d⟩ := K0.out.cell
  try clear k1a k1b k1c k1d k1z
  have k1z := K1.out.lt
  obtain ⟨k1a, k1b, k1c, k1d⟩ := K1.out.cell
  try clear k2a k2b k2c k2d k2z
  have k2z := K2.out.lt
  obtain ⟨k2a, k2b, k2c, k2d⟩ := K2.out.cell
  try clear k3a k3b k3c k3d k3z
  have k3z := K3.out.lt
  obtain ⟨k3a, k3b, k3c, k3d⟩ := K3.out.cell
  clear b
  go_wp2_with fail
  refine ((l2_third x t _ HXx.out HXt.out)).mono ?_
  rintro e w3 ⟨rfl, b⟩
  have Sw3 := Lib.hid b.size
  have HB := Lib.hid (chain0 (w := w) (by repeat (first | with_reducible exact Below.refl _ _ | with_reducible exact HB.out | with_reducible apply Below.drew | with_reducible apply bdN | with_reducible refine Below.alloc ?_ (by first | exact Nat.le_refl _ | with_reducible exact HB.out.size | omega | (simp; done) | (simp; omega) | (have := HB.out.size; simp at *; omega)) _ | with_reducible refine Below.setCell ?_ (by first | exact Nat.le_refl _ | with_reducible exact HB.out.size | omega | (simp; done) | (simp; omega) | (have := HB.out.size; simp at *; omega)) _)) b)
  have O0 := Lib.hid (OwnN.below (by repeat (first | with_reducible exact O0.out | with_reducible apply OwnN.drewN | with_reducible apply OwnN.drew | with_reducible apply OwnN.alloc)) b)
  have K0 : Hid (Box _ (w.heap.size) (x)) := Lib.hid (Box.below (by repeat (first | with_reducible exact K0.out | with_reducible apply Box.drewN | with_reducible apply Box.drew | (with_reducible refine Box.newAt ?_ ?_ <;> first | (simp; done) | rfl) | with_reducible apply Box.alloc)) b)
  have K1 : Hid (Box _ (w.heap.size + 1) (y)) := Lib.hid (Box.below (by repeat (first | with_reducible exact K1.out | with_reducible apply Box.drewN | with_reducible apply Box.drew | (with_reducible refine Box.newAt ?_ ?_ <;> first | (simp; done) | rfl) | with_reducible apply Box.alloc)) b)
  have K2 : Hid (Box _ (w.heap.size + 1 + 1) (z)) := Lib.hid (Box.below (by repeat (first | with_reducible exact K2.out | with_reducible apply Box.drewN | with_reducible apply Box.drew | (with_reducible refine Box.newAt ?_ ?_ <;> first | (simp; done) | rfl) | with_reducible apply Box.alloc)) b)
  have K3 : Hid (Box _ (w.heap.size + 1 + 1 + 1) (t)) := Lib.hid (Box.below (by repeat (first | with_reducible exact K3.out | with_reducible apply Box.drewN | with_reducible apply Box.drew | (with_reducible refine Box.newAt ?_ ?_ <;> first | (simp; done) | rfl) | with_reducible apply Box.alloc)) b)
  try clear k0a k0b k0c k0d k0z
  have k0z := K0.out.lt
  obtain ⟨k0a, k0b, k0c, k0d⟩ := K0.out.cell
  try clear k1a k1b k1c k1d k1z
  have k1z := K1.out.lt
  obtain ⟨k1a, k1b, k1c, k1d⟩ := K1.out.cell
  try clear k2a k2b k2c k2d k2z
  have k2z := K2.out.lt
  obtain ⟨k2a, k2b, k2c, k2d⟩ := K2.out.cell
  try clear k3a k3b k3c k3d k3z
  have k3z := K3.out.lt
  obtain ⟨k3a, k3b, k3c, k3d⟩ := K3.out.cell
  clear b
  go_wp2_with fail
  refine (l2_put [] (third x t) g 0 0 0 _ rfl (by omega) (by omega) (fun h => by simp [flat] at h) rfl (third_ok _ _) (List.Pairwise.nil)).mono ?_
  rintro e w4 ⟨u, rfl, hu, b1⟩
  rw [put_nil] at hu
  have b := b1
  have O1 := Lib.hid (OwnN.own (OwnN.base hu HB.out.size))
  have Sw4 := Lib.hid b.size
  have HB := Lib.hid (chain0 (w := w) (by repeat (first | with_reducible exact Below.refl _ _ | with_reducible exact HB.out | with_reducible apply Below.drew | with_reducible apply bdN | with_reducible refine Below.alloc ?_ (by first | exact Nat.le_refl _ | with_reducible exact HB.out.size | omega | (simp; done) | (simp; omega) | (have := HB.out.size; simp at *; omega)) _ | with_reducible refine Below.setCell ?_ (by first | exact Nat.le_refl _ | with_reducible exact HB.out.size | omega | (simp; done) | (simp; omega) | (have := HB.out.size; simp at *; omega)) _)) b)
  have K0 : Hid (Box _ (w.heap.size) (x)) := Lib.hid (Box.below (by repeat (first | with_reducible exact K0.out | with_reducible apply Box.drewN | with_reducible apply Box.drew | (with_reducible refine Box.newAt ?_ ?_ <;> first | (simp; done) | rfl) | with_reducible apply Box.alloc)) b)
  have K1 : Hid (Box _ (w.heap.size + 1) (y)) := Lib.hid (Box.below (by repeat (first | with_reducible exact K1.out | with_reducible apply Box.drewN | with_reducible apply Box.drew | (with_reducible refine Box.newAt ?_ ?_ <;> first | (simp; done) | rfl) | with_reducible apply Box.alloc)) b)
  have K2 : Hid (Box _ (w.heap.size + 1 + 1) (z)) := Lib.hid (Box.below (by repeat (first | with_reducible exact K2.out | with_reducible apply Box.drewN | with_reducible apply Box.drew | (with_reducible refine Box.newAt ?_ ?_ <;> first | (simp; done) | rfl) | with_reducible apply Box.alloc)) b)
  have K3 : Hid (Box _ (w.heap.size + 1 + 1 + 1) (t)) := Lib.hid (Box.below (by repeat (first | with_reducible exact K3.out | with_reducible apply Box.drewN | with_reducible apply Box.drew | (with_reducible refine Box.newAt ?_ ?_ <;> first | (simp; done) | rfl) | with_reducible apply Box.alloc)) b)
  try clear k0a k0b k0c k0d k0z
  have k0z := K0.out.lt
  obtain ⟨k0a, k0b, k0c, k0d⟩ := K0.out.cell
  try clear k1a k1b k1c k1d k1z
  have k1z := K1.out.lt
  obtain ⟨k1a, k1b, k1c, k1d⟩ := K1.out.cell
  try clear k2a k2b k2c k2d k2z
  have k2z := K2.out.lt
  obtain ⟨k2a, k2b, k2c, k2d⟩ := K2.out.cell
  try clear k3a k3b k3c k3d k3z
  have k3z := K3.out.lt
  obtain ⟨k3a, k3b, k3c, k3d⟩ := K3.out.cell
  clear b
  clear hu b1
  go_wp2_with fail
  go_ret
  exact ⟨_, rfl, O1.out, HB.out⟩

set_option maxRecDepth 100000 in
set_option maxHeartbeats 8000000 in
theorem l10_mid0 (x y z t : Cd) (w : World) (ha : x.ok = true) (hb : y.ok = true) (hc : z.ok = true) (hd : t.ok = true) (q1 : same (third x y) (third z t) = false) (q2 : same (third x z) (third y t) = false) (q3 : same (third x t) (third y z) = false) :
    Calls Try.prog 53 #[x.val, y.val, z.val, t.val] w fun e w' => ∃ u, e = .returned u ∧ Own w' w.heap.size u [] ∧ Below w.heap.size w w' := by
  have he1 := eq_run (third x y) (third z t) (third_ok _ _) (third_ok _ _)
  rw [q1] at he1
  have he2 := eq_run (third x z) (third y t) (third_ok _ _) (third_ok _ _)
  rw [q2] at he2
  have he3 := eq_run (third x t) (third y z) (third_ok _ _) (third_ok _ _)
  rw [q3] at he3
  have HXx := Lib.hid ha
  have HXy := Lib.hid hb
  have HXz := Lib.hid hc
  have HXt := Lib.hid hd
  clear ha hb hc hd q1 q2 q3
  go_enter Try.func53, Try.ntmps53
  go_upto_region 1 with fail
  obtain ⟨wa, ew, b⟩ : ∃ wOPN : World, wOPN = ((((w.alloc x.obj).alloc y.obj).alloc z.obj).alloc t.obj) ∧ Below (((((w.alloc x.obj).alloc y.obj).alloc z.obj).alloc t.obj)).heap.size (((((w.alloc x.obj).alloc y.obj).alloc z.obj).alloc t.obj)) wOPN := ⟨_, rfl, Below.refl _ _⟩
  rw [← ew]
  clear ew
  have Swa := Lib.hid b.size
  have HB := Lib.hid (chain0 (w := w) (by repeat (first | with_reducible exact Below.refl _ _ | with_reducible exact HB.out | with_reducible apply Below.drew | with_reducible apply bdN | with_reducible refine Below.alloc ?_ (by first | exact Nat.le_refl _ | with_reducible exact HB.out.size | omega | (simp; done) | (simp; omega) | (have := HB.out.size; simp at *; omega)) _ | with_reducible refine Below.setCell ?_ (by first | exact Nat.le_refl _ | with_reducible exact HB.out.size | omega | (simp; done) | (simp; omega) | (have := HB.out.size; simp at *; omega)) _)) b)
  have K0 : Hid (Box _ (w.heap.size) (x)) := Lib.hid (Box.below (by repeat (first | with_reducible exact K0.out | with_reducible apply Box.drewN | with_reducible apply Box.drew | (with_reducible refine Box.newAt ?_ ?_ <;> first | (simp; done) | rfl) | with_reducible apply Box.alloc)) b)
  have K1 : Hid (Box _ (w.heap.size + 1) (y)) := Lib.hid (Box.below (by repeat (first | with_reducible exact K1.out | with_reducible apply Box.drewN | with_reducible apply Box.drew | (with_reducible refine Box.newAt ?_ ?_ <;> first | (simp; done) | rfl) | with_reducible apply Box.alloc)) b)
  have K2 : Hid (Box _ (w.heap.size + 1 + 1) (z)) := Lib.hid (Box.below (by repeat (first | with_reducible exact K2.out | with_reducible apply Box.drewN | with_reducible apply Box.drew | (with_reducible refine Box.newAt ?_ ?_ <;> first | (simp; done) | rfl) | with_reducible apply Box.alloc)) b)
  have K3 : Hid (Box _ (w.heap.size + 1 + 1 + 1) (t)) := Lib.hid (Box.below (by repeat (first | with_reducible exact K3.out | with_reducible apply Box.drewN | with_reducible apply Box.drew | (with_reducible refine Box.newAt ?_ ?_ <;> first | (simp; done) | rfl) | with_reducible apply Box.alloc)) b)
  try clear k0a k0b k0c k0d k0z
  have k0z := K0.out.lt
  obtain ⟨k0a, k0b, k0c, k0d⟩ := K0.out.cell
  try clear k1a k1b k1c k1d k1z
  have k1z := K1.out.lt
  obtain ⟨k1a, k1b, k1c, k1d⟩ := K1.out.cell
  try clear k2a k2b k2c k2d k2z
  have k2z := K2.out.lt
  obtain ⟨k2a, k2b, k2c, k2d⟩ := K2.out.cell
  try clear k3a k3b k3c k3d k3z
  have k3z := K3.out.lt
  obtain ⟨k3a, k3b, k3c, k3d⟩ := K3.out.cell
  clear b
  have O0 := Lib.hid (OwnN.empty wa w.heap.size HB.out.size)
  go_upto_region 2 with fail
  obtain ⟨wb, ew, b⟩ : ∃ wOPN : World, wOPN = (wa.alloc (.cells #[] 25)) ∧ Below ((wa.alloc (.cells #[] 25))).heap.size ((wa.alloc (.cells #[] 25))) wOPN := ⟨_, rfl, Below.refl _ _⟩
  rw [← ew]
  clear ew
  have Swb := Lib.hid b.size
  have HB := Lib.hid (chain0 (w := w) (by repeat (first | with_reducible exact Below.refl _ _ | with_reducible exact HB.out | with_reducible apply Below.drew | with_reducible apply bdN | with_reducible refine Below.alloc ?_ (by first | exact Nat.le_refl _ | with_reducible exact HB.out.size | omega | (simp; done) | (simp; omega) | (have := HB.out.size; simp at *; omega)) _ | with_reducible refine Below.setCell ?_ (by first | exact Nat.le_refl _ | with_reducible exact HB.out.size | omega | (simp; done) | (simp; omega) | (have := HB.out.size; simp at *; omega)) _)) b)
  have O0 := Lib.hid (OwnN.below (by repeat (first | with_reducible exact O0.out | with_reducible apply OwnN.drewN | with_reducible apply OwnN.drew | with_reducible apply OwnN.alloc)) b)
  have K0 : Hid (Box _ (w.heap.size) (x)) := Lib.hid (Box.below (by repeat (first | with_reducible exact K0.out | with_reducible apply Box.drewN | with_reducible apply Box.drew | (with_reducible refine Box.newAt ?_ ?_ <;> first | (simp; done) | rfl) | with_reducible apply Box.alloc)) b)
  have K1 : Hid (Box _ (w.heap.size + 1) (y)) := Lib.hid (Box.below (by repeat (first | with_reducible exact K1.out | with_reducible apply Box.drewN | with_reducible apply Box.drew | (with_reducible refine Box.newAt ?_ ?_ <;> first | (simp; done) | rfl) | with_reducible apply Box.alloc)) b)
  have K2 : Hid (Box _ (w.heap.size + 1 + 1) (z)) := Lib.hid (Box.below (by repeat (first | with_reducible exact K2.out | with_reducible apply Box.drewN | with_reducible apply Box.drew | (with_reducible refine Box.newAt ?_ ?_ <;> first | (simp; done) | rfl) | with_reducible apply Box.alloc)) b)
  have K3 : Hid (Box _ (w.heap.size + 1 + 1 + 1) (t)) := Lib.hid (Box.below (by repeat (first | with_reducible exact K3.out | with_reducible apply Box.drewN | with_reducible apply Box.drew | (with_reducible refine Box.newAt ?_ ?_ <;> first | (simp; done) | rfl) | with_reducible apply Box.alloc)) b)
  try clear k0a k0b k0c k0d k0z
  have k0z := K0.out.lt
  obtain ⟨k0a, k0b, k0c, k0d⟩ := K0.out.cell
  try clear k1a k1b k1c k1d k1z
  have k1z := K1.out.lt
  obtain ⟨k1a, k1b, k1c, k1d⟩ := K1.out.cell
  try clear k2a k2b k2c k2d k2z
  have k2z := K2.out.lt
  obtain ⟨k2a, k2b, k2c, k2d⟩ := K2.out.cell
  try clear k3a k3b k3c k3d k3z
  have k3z := K3.out.lt
  obtain ⟨k3a, k3b, k3c, k3d⟩ := K3.out.cell
  clear b
  obtain ⟨g, hg⟩ : ∃ g, wa.heap.size = g := ⟨_, rfl⟩
  rw [hg] at O0
  try rw [hg]
  clear hg
  have qk0a := fun d os => cell_regrown k0a d os
  have qk0b := fun d os => cell_regrown k0b d os
  have qk0c := fun d os => cell_regrown k0c d os
  have qk0d := fun d os => cell_regrown k0d d os
  have qk1a := fun d os => cell_regrown k1a d os
  have qk1b := fun d os => cell_regrown k1b d os
  have qk1c := fun d os => cell_regrown k1c d os
  have qk1d := fun d os => cell_regrown k1d d os
  have qk2a := fun d os => cell_regrown k2a d os
  have qk2b := fun d os => cell_regrown k2b d os
  have qk2c := fun d os => cell_regrown k2c d os
  have qk2d := fun d os => cell_regrown k2d d os
  have qk3a := fun d os => cell_regrown k3a d os
  have qk3b := fun d os => cell_regrown k3b d os
  have qk3c := fun d os => cell_regrown k3c d os
  have qk3d := fun d os => cell_regrown k3d d os
  refine wp_region_quiet_below (by kernel_rfl) (by kernel_rfl) ?_
  repeat (first | go_big_quiet_step ((first | (go_at_call 83; with_reducible exact Calls.regrown_of (l2_third _ _ _ HXx.out HXy.out)) | (go_at_call 83; with_reducible exact Calls.regrown_of (l2_third _ _ _ HXz.out HXt.out)))) | quiet_step ((first | (go_at_call 83; with_reducible exact Calls.regrown_of (l2_third _ _ _ HXx.out HXy.out)) | (go_at_call 83; with_reducible exact Calls.regrown_of (l2_third _ _ _ HXz.out HXt.out)))))
  refine wpQuiet_nil ?_
  intro w0 hw2
  have b : Below wb.heap.size wb w0 := by obtain ⟨r, hr⟩ := hw2; rw [hr]; exact below_regrown _ _ _
  clear hw2 qk0a qk0b qk0c qk0d qk1a qk1b qk1c qk1d qk2a qk2b qk2c qk2d qk3a qk3b qk3c qk3d
  have Sw0 := Lib.hid b.size
  have HB := Lib.hid (chain0 (w := w) (by repeat (first | with_reducible exact Below.refl _ _ | with_reducible exact HB.out | with_reducible apply Below.drew | with_reducible apply bdN | with_reducible refine Below.alloc ?_ (by first | exact Nat.le_refl _ | with_reducible exact HB.out.size | omega | (simp; done) | (simp; omega) | (have := HB.out.size; simp at *; omega)) _ | with_reducible refine Below.setCell ?_ (by first | exact Nat.le_refl _ | with_reducible exact HB.out.size | omega | (simp; done) | (simp; omega) | (have := HB.out.size; simp at *; omega)) _)) b)
  have O0 := Lib.hid (OwnN.below (by repeat (first | with_reducible exact O0.out | with_reducible apply OwnN.drewN | with_reducible apply OwnN.drew | with_reducible apply OwnN.alloc)) b)
  have K0 : Hid (Box _ (w.heap.size) (x)) := Lib.hid (Box.below (by repeat (first | with_reducible exact K0.out | with_reducible apply Box.drewN | with_reducible apply Box.drew | (with_reducible refine Box.newAt ?_ ?_ <;> first | (simp; done) | rfl) | with_reducible apply Box.alloc)) b)
  have K1 : Hid (Box _ (w.heap.size + 1) (y)) := Lib.hid (Box.below (by repeat (first | with_reducible exact K1.out | with_reducible apply Box.drewN | with_reducible apply Box.drew | (with_reducible refine Box.newAt ?_ ?_ <;> first | (simp; done) | rfl) | with_reducible apply Box.alloc)) b)
  have K2 : Hid (Box _ (w.heap.size + 1 + 1) (z)) := Lib.hid (Box.below (by repeat (first | with_reducible exact K2.out | with_reducible apply Box.drewN | with_reducible apply Box.drew | (with_reducible refine Box.newAt ?_ ?_ <;> first | (simp; done) | rfl) | with_reducible apply Box.alloc)) b)
  have K3 : Hid (Box _ (w.heap.size + 1 + 1 + 1) (t)) := Lib.hid (Box.below (by repeat (first | with_reducible exact K3.out | with_reducible apply Box.drewN | with_reducible apply Box.drew | (with_reducible refine Box.newAt ?_ ?_ <;> first | (simp; done) | rfl) | with_reducible apply Box.alloc)) b)
  try clear k0a k0b k0c k0d k0z
  have k0z := K0.out.lt
  obtain ⟨k0a, k0b, k0c, k0d⟩ := K0.out.cell
  try clear k1a k1b k1c k1d k1z
  have k1z := K1.out.lt
  obtain ⟨k1a, k1b, k1c, k1d⟩ := K1.out.cell
  try clear k2a k2b k2c k2d k2z
  have k2z := K2.out.lt
  obtain ⟨k2a, k2b, k2c, k2d⟩ := K2.out.cell
  try clear k3a k3b k3c k3d k3z
  have k3z := K3.out.lt
  obtain ⟨k3a, k3b, k3c, k3d⟩ := K3.out.cell
  clear b
  go_wp2_with fail
  have qk0a := fun d os => cell_regrown k0a d os
  have qk0b := fun d os => cell_regrown k0b d os
  have qk0c := fun d os => cell_regrown k0c d os
  have qk0d := fun d os => cell_regrown k0d d os
  have qk1a := fun d os => cell_regrown k1a d os
  have qk1b := fun d os => cell_regrown k1b d os
  have qk1c := fun d os => cell_regrown k1c d os
  have qk1d := fun d os => cell_regrown k1d d os
  have qk2a := fun d os => cell_regrown k2a d os
  have qk2b := fun d os => cell_regrown k2b d os
  have qk2c := fun d os => cell_regrown k2c d os
  have qk2d := fun d os => cell_regrown k2d d os
  have qk3a := fun d os => cell_regrown k3a d os
  have qk3b := fun d os => cell_regrown k3b d os
  have qk3c := fun d os => cell_regrown k3c d os
  have qk3d := fun d os => cell_regrown k3d d os
  refine wp_region_quiet_below (by kernel_rfl) (by kernel_rfl) ?_
  repeat (first | go_big_quiet_step ((first | (go_at_call 83; with_reducible exact Calls.regrown_of (l2_third _ _ _ HXx.out HXz.out)) | (go_at_call 83; with_reducible exact Calls.regrown_of (l2_third _ _ _ HXy.out HXt.out)))) | quiet_step ((first | (go_at_call 83; with_reducible exact Calls.regrown_of (l2_third _ _ _ HXx.out HXz.out)) | (go_at_call 83; with_reducible exact Calls.regrown_of (l2_third _ _ _ HXy.out HXt.out)))))
  refine wpQuiet_nil ?_
  intro w1 hw2
  have b : Below w0.heap.size w0 w1 := by obtain ⟨r, hr⟩ := hw2; rw [hr]; exact below_regrown _ _ _
  clear hw2 qk0a qk0b qk0c qk0d qk1a qk1b qk1c qk1d qk2a qk2b qk2c qk2d qk3a qk3b qk3c qk3d
  have Sw1 := Lib.hid b.size
  have HB := Lib.hid (chain0 (w := w) (by repeat (first | with_reducible exact Below.refl _ _ | with_reducible exact HB.out | with_reducible apply Below.drew | with_reducible apply bdN | with_reducible refine Below.alloc ?_ (by first | exact Nat.le_refl _ | with_reducible exact HB.out.size | omega | (simp; done) | (simp; omega) | (have := HB.out.size; simp at *; omega)) _ | with_reducible refine Below.setCell ?_ (by first | exact Nat.le_refl _ | with_reducible exact HB.out.size | omega | (simp; done) | (simp; omega) | (have := HB.out.size; simp at *; omega)) _)) b)
  have O0 := Lib.hid (OwnN.below (by repeat (first | with_reducible exact O0.out | with_reducible apply OwnN.drewN | with_reducible apply OwnN.drew | with_reducible apply OwnN.alloc)) b)
  have K0 : Hid (Box _ (w.heap.size) (x)) := Lib.hid (Box.below (by repeat (first | with_reducible exact K0.out | with_reducible apply Box.drewN | with_reducible apply Box.drew | (with_reducible refine Box.newAt ?_ ?_ <;> first | (simp; done) | rfl) | with_reducible apply Box.alloc)) b)
  have K1 : Hid (Box _ (w.heap.size + 1) (y)) := Lib.hid (Box.below (by repeat (first | with_reducible exact K1.out | with_reducible apply Box.drewN | with_reducible apply Box.drew | (with_reducible refine Box.newAt ?_ ?_ <;> first | (simp; done) | rfl) | with_reducible apply Box.alloc)) b)
  have K2 : Hid (Box _ (w.heap.size + 1 + 1) (z)) := Lib.hid (Box.below (by repeat (first | with_reducible exact K2.out | with_reducible apply Box.drewN | with_reducible apply Box.drew | (with_reducible refine Box.newAt ?_ ?_ <;> first | (simp; done) | rfl) | with_reducible apply Box.alloc)) b)
  have K3 : Hid (Box _ (w.heap.size + 1 + 1 + 1) (t)) := Lib.hid (Box.below (by repeat (first | with_reducible exact K3.out | with_reducible apply Box.drewN | with_reducible apply Box.drew | (with_reducible refine Box.newAt ?_ ?_ <;> first | (simp; done) | rfl) | with_reducible apply Box.alloc)) b)
  try clear k0a k0b k0c k0d k0z
  have k0z := K0.out.lt
  obtain ⟨k0a, k0b, k0c, k0d⟩ := K0.out.cell
  try clear k1a k1b k1c k1d k1z
  have k1z := K1.out.lt
  obtain ⟨k1a, k1b, k1c, k1d⟩ := K1.out.cell
  try clear k2a k2b k2c k2d k2z
  have k2z := K2.out.lt
  obtain ⟨k2a, k2b, k2c, k2d⟩ := K2.out.cell
  try clear k3a k3b k3c k3d k3z
  have k3z := K3.out.lt
  obtain ⟨k3a, k3b, k3c, k3d⟩ := K3.out.cell
  clear b
  go_wp2_with fail
  have qk0a := fun d os => cell_regrown k0a d os
  have qk0b := fun d os => cell_regrown k0b d os
  have qk0c := fun d os => cell_regrown k0c d os
  have qk0d := fun d os => cell_regrown k0d d os
  have qk1a := fun d os => cell_regrown k1a d os
  have qk1b := fun d os => cell_regrown k1b d os
  have qk1c := fun d os => cell_regrown k1c d os
  have qk1d := fun d os => cell_regrown k1d d os
  have qk2a := fun d os => cell_regrown k2a d os
  have qk2b := fun d os => cell_regrown k2b d os
  have qk2c := fun d os => cell_regrown k2c d os
  have qk2d := fun d os => cell_regrown k2d d os
  have qk3a := fun d os => cell_regrown k3a d os
  have qk3b := fun d os => cell_regrown k3b d os
  have qk3c := fun d os => cell_regrown k3c d os
  have qk3d := fun d os => cell_regrown k3d d os
  refine wp_region_quiet_below (by kernel_rfl) (by kernel_rfl) ?_
  repeat (first | go_big_quiet_step ((first | (go_at_call 83; with_reducible exact Calls.regrown_of (l2_third _ _ _ HXx.out HXt.out)) | (go_at_call 83; with_reducible exact Calls.regrown_of (l2_third _ _ _ HXy.out HXz.out)))) | quiet_step ((first | (go_at_call 83; with_reducible exact Calls.regrown_of (l2_third _ _ _ HXx.out HXt.out)) | (go_at_call 83; with_reducible exact Calls.regrown_of (l2_third _ _ _ HXy.out HXz.out)))))
  refine wpQuiet_nil ?_
  intro w2 hw2
  have b : Below w1.heap.size w1 w2 := by obtain ⟨r, hr⟩ := hw2; rw [hr]; exact below_regrown _ _ _
  clear hw2 qk0a qk0b qk0c qk0d qk1a qk1b qk1c qk1d qk2a qk2b qk2c qk2d qk3a qk3b qk3c qk3d
  have Sw2 := Lib.hid b.size
  have HB := Lib.hid (chain0 (w := w) (by repeat (first | with_reducible exact Below.refl _ _ | with_reducible exact HB.out | with_reducible apply Below.drew | with_reducible apply bdN | with_reducible refine Below.alloc ?_ (by first | exact Nat.le_refl _ | with_reducible exact HB.out.size | omega | (simp; done) | (simp; omega) | (have := HB.out.size; simp at *; omega)) _ | with_reducible refine Below.setCell ?_ (by first | exact Nat.le_refl _ | with_reducible exact HB.out.size | omega | (simp; done) | (simp; omega) | (have := HB.out.size; simp at *; omega)) _)) b)
  have O0 := Lib.hid (OwnN.below (by repeat (first | with_reducible exact O0.out | with_reducible apply OwnN.drewN | with_reducible apply OwnN.drew | with_reducible apply OwnN.alloc)) b)
  have K0 : Hid (Box _ (w.heap.size) (x)) := Lib.hid (Box.below (by repeat (first | with_reducible exact K0.out | with_reducible apply Box.drewN | with_reducible apply Box.drew | (with_reducible refine Box.newAt ?_ ?_ <;> first | (simp; done) | rfl) | with_reducible apply Box.alloc)) b)
  have K1 : Hid (Box _ (w.heap.size + 1) (y)) := Lib.hid (Box.below (by repeat (first | with_reducible exact K1.out | with_reducible apply Box.drewN | with_reducible apply Box.drew | (with_reducible refine Box.newAt ?_ ?_ <;> first | (simp; done) | rfl) | with_reducible apply Box.alloc)) b)
  have K2 : Hid (Box _ (w.heap.size + 1 + 1) (z)) := Lib.hid (Box.below (by repeat (first | with_reducible exact K2.out | with_reducible apply Box.drewN | with_reducible apply Box.drew | (with_reducible refine Box.newAt ?_ ?_ <;> first | (simp; done) | rfl) | with_reducible apply Box.alloc)) b)
  have K3 : Hid (Box _ (w.heap.size + 1 + 1 + 1) (t)) := Lib.hid (Box.below (by repeat (first | with_reducible exact K3.out | with_reducible apply Box.drewN | with_reducible apply Box.drew | (with_reducible refine Box.newAt ?_ ?_ <;> first | (simp; done) | rfl) | with_reducible apply Box.alloc)) b)
  try clear k0a k0b k0c k0d k0z
  have k0z := K0.out.lt
  obtain ⟨k0a, k0b, k0c, k0d⟩ := K0.out.cell
  try clear k1a k1b k1c k1d k1z
  have k1z := K1.out.lt
  obtain ⟨k1a, k1b, k1c, k1d⟩ := K1.out.cell
  try clear k2a k2b k2c k2d k2z
  have k2z := K2.out.lt
  obtain ⟨k2a, k2b, k2c, k2d⟩ := K2.out.cell
  try clear k3a k3b k3c k3d k3z
  have k3z := K3.out.lt
  obtain ⟨k3a, k3b, k3c, k3d⟩ := K3.out.cell
  clear b
  go_wp2_with fail
  go_ret
  exact ⟨_, rfl, OwnN.own O0.out, HB.out⟩

theorem l10_middles (x y z t : Cd) (w : World) (ha : x.ok = true) (hb : y.ok = true) (hc : z.ok = true) (hd : t.ok = true) (hbc : y ≠ z) (hbd : y ≠ t) (hcd : z ≠ t) :
    Calls Try.prog 53 #[x.val, y.val, z.val, t.val] w fun e w' => ∃ u, e = .returned u ∧ Own w' w.heap.size u (mids x y z t) ∧ Below w.heap.size w w' := by
  obtain ⟨m1, m2⟩ := mids_one (a := x) hb hc hd hbc hbd hcd
  unfold mids
  cases q1 : same (third x y) (third z t)
  · cases q2 : same (third x z) (third y t)
    · cases q3 : same (third x t) (third y z)
      · exact l10_mid0 x y z t w ha hb hc hd q1 q2 q3
      · exact l10_mid3 x y z t w ha hb hc hd q1 q2 q3
    · rw [m2 q2]; exact l10_mid2 x y z t w ha hb hc hd q1 q2 (m2 q2)
  · rw [(m1 q1).1, (m1 q1).2]; exact l10_mid1 x y z t w ha hb hc hd q1 (m1 q1).1 (m1 q1).2
end Go.Proofs.Ytjmlefcmhjodeaa.others
