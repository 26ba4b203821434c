/- Maps: MapCard, the program's and the model's. -/
import Derived.Test.YtngfdfgeoieebaaMf
namespace Go.Proofs.Ytngfdfgeoieebaa.maps
open Go.RowKit
open cards
set_option linter.unusedVariables false

/-- What MapCard returns. -/
def mcR (m : Mp) (c : Cd) : Cd × Bool := if m.ok = true ∧ c.ok = true then (img m c, true) else (zero, false)

set_option maxRecDepth 100000 in
set_option maxHeartbeats 4000000 in
theorem impl_mc (m : Mp) (c : Cd) (w : World) :
    Calls Try.prog 21 #[m.val, c.val] w fun e w' => e = .returned (.tuple #[(mcR m c).1.val, .bool (mcR m c).2]) ∧ Below w.heap.size w w' := by
  have HI := Lib.hid (fun w => is_map m w)
  have HJ := Lib.hid (fun w => is_card c w)
  have K0 : Hid (MBox (((w.alloc (Mv.obj ⟨28, m⟩)).alloc c.obj).alloc zero.obj) w.heap.size ⟨28, m⟩) := Lib.hid (((MBox.newAt rfl rfl).alloc _).alloc _)
  go_enter Try.func21, Try.ntmps21
  cases hm : m.ok
  · have HT := Lib.hid (show mcR m c = (zero, false) by unfold mcR; rw [if_neg (by simp [hm])])
    rw [hm] at HI
    clear hm
    go_wp2_with ((with_reducible refine take_map rfl _ rfl K0.out ?_ ?_); rfl)
    clear K0
    go_wp2_with fail
    refine ((HI.out _)).mono ?_
    rintro e w1 ⟨rfl, b⟩
    have Sw1 := Lib.hid b.size
    have HB := Lib.hid (chain0 (w := w) (by repeat (first | with_reducible exact Below.refl _ _ | with_reducible exact HB.out | with_reducible apply Below.drew | with_reducible apply bdN | with_reducible refine Below.alloc ?_ (by first | exact Nat.le_refl _ | with_reducible exact HB.out.size | omega | (simp; done) | (simp; omega) | (have := HB.out.size; simp at *; omega)) _ | with_reducible refine Below.setCell ?_ (by first | exact Nat.le_refl _ | with_reducible exact HB.out.size | omega | (simp; done) | (simp; omega) | (have := HB.out.size; simp at *; omega)) _)) b)
    have K0 : Hid (MBox _ (w.heap.size) (⟨28, m⟩)) := Lib.hid (MBox.below (by repeat (first | with_reducible exact K0.out | with_reducible apply MBox.drewN | with_reducible apply MBox.drew | (with_reducible refine MBox.newAt ?_ ?_ <;> first | (simp; done) | rfl) | with_reducible apply MBox.alloc)) b)
    have K1 : Hid (Box _ (w.heap.size + 1) (c)) := Lib.hid (Box.below (by repeat (first | with_reducible exact K1.out | with_reducible apply Box.drewN | with_reducible apply Box.drew | (with_reducible refine Box.newAt ?_ ?_ <;> first | (simp; done) | rfl) | with_reducible apply Box.alloc)) b)
    have K2 : Hid (Box _ (w.heap.size + 1 + 1) (zero)) := Lib.hid (Box.below (by repeat (first | with_reducible exact K2.out | with_reducible apply Box.drewN | with_reducible apply Box.drew | (with_reducible refine Box.newAt ?_ ?_ <;> first | (simp; done) | rfl) | with_reducible apply Box.alloc)) b)
    try clear k0a k0b k0c k0d k0e k0g k0h k0i k0j k0k k0l k0m k0n k0o k0p k0q k0z
    have k0z := K0.out.lt
    obtain ⟨k0a, k0b, k0c, k0d, k0e, k0g, k0h, k0i, k0j, k0k, k0l, k0m, k0n, k0o, k0p, k0q⟩ := K0.out.cell
    try clear k1a k1b k1c k1d k1z
    have k1z := K1.out.lt
    obtain ⟨k1a, k1b, k1c, k1d⟩ := K1.out.cell
    try clear k2a k2b k2c k2d k2z
    have k2z := K2.out.lt
    obtain ⟨k2a, k2b, k2c, k2d⟩ := K2.out.cell
    try clear k2f
    have k2f := K2.out.frozen
    clear b
    go_wp2_with fail
    try simp only [Exit.inBlock, Exit.then]
    refine bodyPost_ret (res_card2 Try.results21 rfl (Box.set_ K2.out zero)) rfl ?_
    exact ⟨by rw [HT.out]; rfl, by repeat (first | with_reducible exact Below.refl _ _ | with_reducible exact HB.out | with_reducible apply Below.drew | with_reducible apply bdN | with_reducible refine Below.alloc ?_ (by first | exact Nat.le_refl _ | with_reducible exact HB.out.size | omega | (simp; done) | (simp; omega) | (have := HB.out.size; simp at *; omega)) _ | with_reducible refine Below.setCell ?_ (by first | exact Nat.le_refl _ | with_reducible exact HB.out.size | omega | (simp; done) | (simp; omega) | (have := HB.out.size; simp at *; omega)) _)⟩
  · rw [hm] at HI
    cases hc : c.ok
    · have HT := Lib.hid (show mcR m c = (zero, false) by unfold mcR; rw [if_neg (by simp [hc])])
      rw [hc] at HJ
      clear hm hc
      go_wp2_with ((with_reducible refine take_map rfl _ rfl K0.out ?_ ?_); rfl)
      clear K0
      go_wp2_with fail
      refine ((HI.out _)).mono ?_
      rintro e w1 ⟨rfl, b⟩
      have Sw1 := Lib.hid b.size
      have HB := Lib.hid (chain0 (w := w) (by repeat (first | with_reducible exact Below.refl _ _ | with_reducible exact HB.out | with_reducible apply Below.drew | with_reducible apply bdN | with_reducible refine Below.alloc ?_ (by first | exact Nat.le_refl _ | with_reducible exact HB.out.size | omega | (simp; done) | (simp; omega) | (have := HB.out.size; simp at *; omega)) _ | with_reducible refine Below.setCell ?_ (by first | exact Nat.le_refl _ | with_reducible exact HB.out.size | omega | (simp; done) | (simp; omega) | (have := HB.out.size; simp at *; omega)) _)) b)
      have K0 : Hid (MBox _ (w.heap.size) (⟨28, m⟩)) := Lib.hid (MBox.below (by repeat (first | with_reducible exact K0.out | with_reducible apply MBox.drewN | with_reducible apply MBox.drew | (with_reducible refine MBox.newAt ?_ ?_ <;> first | (simp; done) | rfl) | with_reducible apply MBox.alloc)) b)
      have K1 : Hid (Box _ (w.heap.size + 1) (c)) := Lib.hid (Box.below (by repeat (first | with_reducible exact K1.out | with_reducible apply Box.drewN | with_reducible apply Box.drew | (with_reducible refine Box.newAt ?_ ?_ <;> first | (simp; done) | rfl) | with_reducible apply Box.alloc)) b)
      have K2 : Hid (Box _ (w.heap.size + 1 + 1) (zero)) := Lib.hid (Box.below (by repeat (first | with_reducible exact K2.out | with_reducible apply Box.drewN | with_reducible apply Box.drew | (with_reducible refine Box.newAt ?_ ?_ <;> first | (simp; done) | rfl) | with_reducible apply Box.alloc)) b)
      try clear k0a k0b k0c k0d k0e k0g k0h k0i k0j k0k k0l k0m k0n k0o k0p k0q k0z
      have k0z := K0.out.lt
      obtain ⟨k0a, k0b, k0c, k0d, k0e, k0g, k0h, k0i, k0j, k0k, k0l, k0m, k0n, k0o, k0p, k0q⟩ := K0.out.cell
      try clear k1a k1b k1c k1d k1z
      have k1z := K1.out.lt
      obtain ⟨k1a, k1b, k1c, k1d⟩ := K1.out.cell
      try clear k2a k2b k2c k2d k2z
      have k2z := K2.out.lt
      obtain ⟨k2a, k2b, k2c, k2d⟩ := K2.out.cell
      try clear k2f
      have k2f := K2.out.frozen
      clear b
      go_wp2_with fail
      refine ((HJ.out _)).mono ?_
      rintro e w2 ⟨rfl, b⟩
      have Sw2 := Lib.hid b.size
      have HB := Lib.hid (chain0 (w := w) (by repeat (first | with_reducible exact Below.refl _ _ | with_reducible exact HB.out | with_reducible apply Below.drew | with_reducible apply bdN | with_reducible refine Below.alloc ?_ (by first | exact Nat.le_refl _ | with_reducible exact HB.out.size | omega | (simp; done) | (simp; omega) | (have := HB.out.size; simp at *; omega)) _ | with_reducible refine Below.setCell ?_ (by first | exact Nat.le_refl _ | with_reducible exact HB.out.size | omega | (simp; done) | (simp; omega) | (have := HB.out.size; simp at *; omega)) _)) b)
      have K0 : Hid (MBox _ (w.heap.size) (⟨28, m⟩)) := Lib.hid (MBox.below (by repeat (first | with_reducible exact K0.out | with_reducible apply MBox.drewN | with_reducible apply MBox.drew | (with_reducible refine MBox.newAt ?_ ?_ <;> first | (simp; done) | rfl) | with_reducible apply MBox.alloc)) b)
      have K1 : Hid (Box _ (w.heap.size + 1) (c)) := Lib.hid (Box.below (by repeat (first | with_reducible exact K1.out | with_reducible apply Box.drewN | with_reducible apply Box.drew | (with_reducible refine Box.newAt ?_ ?_ <;> first | (simp; done) | rfl) | with_reducible apply Box.alloc)) b)
      have K2 : Hid (Box _ (w.heap.size + 1 + 1) (zero)) := Lib.hid (Box.below (by repeat (first | with_reducible exact K2.out | with_reducible apply Box.drewN | with_reducible apply Box.drew | (with_reducible refine Box.newAt ?_ ?_ <;> first | (simp; done) | rfl) | with_reducible apply Box.alloc)) b)
      try clear k0a k0b k0c k0d k0e k0g k0h k0i k0j k0k k0l k0m k0n k0o k0p k0q k0z
      have k0z := K0.out.lt
      obtain ⟨k0a, k0b, k0c, k0d, k0e, k0g, k0h, k0i, k0j, k0k, k0l, k0m, k0n, k0o, k0p, k0q⟩ := K0.out.cell
      try clear k1a k1b k1c k1d k1z
      have k1z := K1.out.lt
      obtain ⟨k1a, k1b, k1c, k1d⟩ := K1.out.cell
      try clear k2a k2b k2c k2d k2z
      have k2z := K2.out.lt
      obtain ⟨k2a, k2b, k2c, k2d⟩ := K2.out.cell
      try clear k2f
      have k2f := K2.out.frozen
      clear b
      go_wp2_with fail
      try simp only [Exit.inBlock, Exit.then]
      refine bodyPost_ret (res_card2 Try.results21 rfl (Box.set_ K2.out zero)) rfl ?_
      exact ⟨by rw [HT.out]; rfl, by repeat (first | with_reducible exact Below.refl _ _ | with_reducible exact HB.out | with_reducible apply Below.drew | with_reducible apply bdN | with_reducible refine Below.alloc ?_ (by first | exact Nat.le_refl _ | with_reducible exact HB.out.size | omega | (simp; done) | (simp; omega) | (have := HB.out.size; simp at *; omega)) _ | with_reducible refine Below.setCell ?_ (by first | exact Nat.le_refl _ | with_reducible exact HB.out.size | omega | (simp; done) | (simp; omega) | (have := HB.out.size; simp at *; omega)) _)⟩
    · have HT := Lib.hid (show mcR m c = (img m c, true) by unfold mcR; rw [if_pos ⟨hm, hc⟩])
      have HIm := Lib.hid (fun w => image_run m c w hm hc)
      rw [hc] at HJ
      clear hm hc
      go_wp2_with ((with_reducible refine take_map rfl _ rfl K0.out ?_ ?_); rfl)
      clear K0
      go_wp2_with fail
      refine ((HI.out _)).mono ?_
      rintro e w1 ⟨rfl, b⟩
      have Sw1 := Lib.hid b.size
      have HB := Lib.hid (chain0 (w := w) (by repeat (first | with_reducible exact Below.refl _ _ | with_reducible exact HB.out | with_reducible apply Below.drew | with_reducible apply bdN | with_reducible refine Below.alloc ?_ (by first | exact Nat.le_refl _ | with_reducible exact HB.out.size | omega | (simp; done) | (simp; omega) | (have := HB.out.size; simp at *; omega)) _ | with_reducible refine Below.setCell ?_ (by first | exact Nat.le_refl _ | with_reducible exact HB.out.size | omega | (simp; done) | (simp; omega) | (have := HB.out.size; simp at *; omega)) _)) b)
      have K0 : Hid (MBox _ (w.heap.size) (⟨28, m⟩)) := Lib.hid (MBox.below (by repeat (first | with_reducible exact K0.out | with_reducible apply MBox.drewN | with_reducible apply MBox.drew | (with_reducible refine MBox.newAt ?_ ?_ <;> first | (simp; done) | rfl) | with_reducible apply MBox.alloc)) b)
      have K1 : Hid (Box _ (w.heap.size + 1) (c)) := Lib.hid (Box.below (by repeat (first | with_reducible exact K1.out | with_reducible apply Box.drewN | with_reducible apply Box.drew | (with_reducible refine Box.newAt ?_ ?_ <;> first | (simp; done) | rfl) | with_reducible apply Box.alloc)) b)
      have K2 : Hid (Box _ (w.heap.size + 1 + 1) (zero)) := Lib.hid (Box.below (by repeat (first | with_reducible exact K2.out | with_reducible apply Box.drewN | with_reducible apply Box.drew | (with_reducible refine Box.newAt ?_ ?_ <;> first | (simp; done) | rfl) | with_reducible apply Box.alloc)) b)
      try clear k0a k0b k0c k0d k0e k0g k0h k0i k0j k0k k0l k0m k0n k0o k0p k0q k0z
      have k0z := K0.out.lt
      obtain ⟨k0a, k0b, k0c, k0d, k0e, k0g, k0h, k0i, k0j, k0k, k0l, k0m, k0n, k0o, k0p, k0q⟩ := K0.out.cell
      try clear k1a k1b k1c k1d k1z
      have k1z := K1.out.lt
      obtain ⟨k1a, k1b, k1c, k1d⟩ := K1.out.cell
      try clear k2a k2b k2c k2d k2z
      have k2z := K2.out.lt
      obtain ⟨k2a, k2b, k2c, k2d⟩ := K2.out.cell
      try clear k2f
      have k2f := K2.out.frozen
      clear b
      go_wp2_with fail
      refine ((HJ.out _)).mono ?_
      rintro e w2 ⟨rfl, b⟩
      have Sw2 := Lib.hid b.size
      have HB := Lib.hid (chain0 (w := w) (by repeat (first | with_reducible exact Below.refl _ _ | with_reducible exact HB.out | with_reducible apply Below.drew | with_reducible apply bdN | with_reducible refine Below.alloc ?_ (by first | exact Nat.le_refl _ | with_reducible exact HB.out.size | omega | (simp; done) | (simp; omega) | (have := HB.out.size; simp at *; omega)) _ | with_reducible refine Below.setCell ?_ (by first | exact Nat.le_refl _ | with_reducible exact HB.out.size | omega | (simp; done) | (simp; omega) | (have := HB.out.size; simp at *; omega)) _)) b)
      have K0 : Hid (MBox _ (w.heap.size) (⟨28, m⟩)) := Lib.hid (MBox.below (by repeat (first | with_reducible exact K0.out | with_reducible apply MBox.drewN | with_reducible apply MBox.drew | (with_reducible refine MBox.newAt ?_ ?_ <;> first | (simp; done) | rfl) | with_reducible apply MBox.alloc)) b)
      have K1 : Hid (Box _ (w.heap.size + 1) (c)) := Lib.hid (Box.below (by repeat (first | with_reducible exact K1.out | with_reducible apply Box.drewN | with_reducible apply Box.drew | (with_reducible refine Box.newAt ?_ ?_ <;> first | (simp; done) | rfl) | with_reducible apply Box.alloc)) b)
      have K2 : Hid (Box _ (w.heap.size + 1 + 1) (zero)) := Lib.hid (Box.below (by repeat (first | with_reducible exact K2.out | with_reducible apply Box.drewN | with_reducible apply Box.drew | (with_reducible refine Box.newAt ?_ ?_ <;> first | (simp; done) | rfl) | with_reducible apply Box.alloc)) b)
      try clear k0a k0b k0c k0d k0e k0g k0h k0i k0j k0k k0l k0m k0n k0o k0p k0q k0z
      have k0z := K0.out.lt
      obtain ⟨k0a, k0b, k0c, k0d, k0e, k0g, k0h, k0i, k0j, k0k, k0l, k0m, k0n, k0o, k0p, k0q⟩ := K0.out.cell
      try clear k1a k1b k1c k1d k1z
      have k1z := K1.out.lt
      obtain ⟨k1a, k1b, k1c, k1d⟩ := K1.out.cell
      try clear k2a k2b k2c k2d k2z
      have k2z := K2.out.lt
      obtain ⟨k2a, k2b, k2c, k2d⟩ := K2.out.cell
      try clear k2f
      have k2f := K2.out.frozen
      clear b
      go_wp2_with ((with_reducible refine take_map rfl _ rfl K0.out ?_ ?_); rfl)
      go_wp2_with fail
      refine ((HIm.out _)).mono ?_
      rintro e w3 ⟨rfl, b⟩
      have Sw3 := Lib.hid b.size
      have HB := Lib.hid (chain0 (w := w) (by repeat (first | with_reducible exact Below.refl _ _ | with_reducible exact HB.out | with_reducible apply Below.drew | with_reducible apply bdN | with_reducible refine Below.alloc ?_ (by first | exact Nat.le_refl _ | with_reducible exact HB.out.size | omega | (simp; done) | (simp; omega) | (have := HB.out.size; simp at *; omega)) _ | with_reducible refine Below.setCell ?_ (by first | exact Nat.le_refl _ | with_reducible exact HB.out.size | omega | (simp; done) | (simp; omega) | (have := HB.out.size; simp at *; omega)) _)) b)
      have K0 : Hid (MBox _ (w.heap.size) (⟨28, m⟩)) := Lib.hid (MBox.below (by repeat (first | with_reducible exact K0.out | with_reducible apply MBox.drewN | with_reducible apply MBox.drew | (with_reducible refine MBox.newAt ?_ ?_ <;> first | (simp; done) | rfl) | with_reducible apply MBox.alloc)) b)
      have K1 : Hid (Box _ (w.heap.size + 1) (c)) := Lib.hid (Box.below (by repeat (first | with_reducible exact K1.out | with_reducible apply Box.drewN | with_reducible apply Box.drew | (with_reducible refine Box.newAt ?_ ?_ <;> first | (simp; done) | rfl) | with_reducible apply Box.alloc)) b)
      have K2 : Hid (Box _ (w.heap.size + 1 + 1) (zero)) := Lib.hid (Box.below (by repeat (first | with_reducible exact K2.out | with_reducible apply Box.drewN | with_reducible apply Box.drew | (with_reducible refine Box.newAt ?_ ?_ <;> first | (simp; done) | rfl) | with_reducible apply Box.alloc)) b)
      try clear k0a k0b k0c k0d k0e k0g k0h k0i k0j k0k k0l k0m k0n k0o k0p k0q k0z
      have k0z := K0.out.lt
      obtain ⟨k0a, k0b, k0c, k0d, k0e, k0g, k0h, k0i, k0j, k0k, k0l, k0m, k0n, k0o, k0p, k0q⟩ := K0.out.cell
      try clear k1a k1b k1c k1d k1z
      have k1z := K1.out.lt
      obtain ⟨k1a, k1b, k1c, k1d⟩ := K1.out.cell
      try clear k2a k2b k2c k2d k2z
      have k2z := K2.out.lt
      obtain ⟨k2a, k2b, k2c, k2d⟩ := K2.out.cell
      try clear k2f
      have k2f := K2.out.frozen
      clear b
      go_wp2_with fail
      try simp only [Exit.inBlock, Exit.then]
      refine bodyPost_ret (res_card2 Try.results21 rfl (Box.set_ K2.out (img m c))) rfl ?_
      exact ⟨by rw [HT.out]; rfl, by repeat (first | with_reducible exact Below.refl _ _ | with_reducible exact HB.out | with_reducible apply Below.drew | with_reducible apply bdN | with_reducible refine Below.alloc ?_ (by first | exact Nat.le_refl _ | with_reducible exact HB.out.size | omega | (simp; done) | (simp; omega) | (have := HB.out.size; simp at *; omega)) _ | with_reducible refine Below.setCell ?_ (by first | exact Nat.le_refl _ | with_reducible exact HB.out.size | omega | (simp; done) | (simp; omega) | (have := HB.out.size; simp at *; omega)) _)⟩

set_option maxRecDepth 100000 in
set_option maxHeartbeats 4000000 in
theorem spec_mc (m : Mp) (c : Cd) (w : World) :
    Calls Try.prog 19 #[m.val, c.val] w fun e w' => e = .returned (.tuple #[(mcR m c).1.val, .bool (mcR m c).2]) ∧ Below w.heap.size w w' := by
  have HI := Lib.hid (fun w => l5_map m w)
  have HJ := Lib.hid (fun w => l2_card c w)
  have K0 : Hid (MBox (((w.alloc (Mv.obj ⟨28, m⟩)).alloc c.obj).alloc zero.obj) w.heap.size ⟨28, m⟩) := Lib.hid (((MBox.newAt rfl rfl).alloc _).alloc _)
  go_enter Try.func19, Try.ntmps19
  cases hm : m.ok
  · have HT := Lib.hid (show mcR m c = (zero, false) by unfold mcR; rw [if_neg (by simp [hm])])
    rw [hm] at HI
    clear hm
    go_wp2_with ((with_reducible refine take_map rfl _ rfl K0.out ?_ ?_); rfl)
    clear K0
    go_wp2_with fail
    refine ((HI.out _)).mono ?_
    rintro e w1 ⟨rfl, b⟩
    have Sw1 := Lib.hid b.size
    have HB := Lib.hid (chain0 (w := w) (by repeat (first | with_reducible exact Below.refl _ _ | with_reducible exact HB.out | with_reducible apply Below.drew | with_reducible apply bdN | with_reducible refine Below.alloc ?_ (by first | exact Nat.le_refl _ | with_reducible exact HB.out.size | omega | (simp; done) | (simp; omega) | (have := HB.out.size; simp at *; omega)) _ | with_reducible refine Below.setCell ?_ (by first | exact Nat.le_refl _ | with_reducible exact HB.out.size | omega | (simp; done) | (simp; omega) | (have := HB.out.size; simp at *; omega)) _)) b)
    have K0 : Hid (MBox _ (w.heap.size) (⟨28, m⟩)) := Lib.hid (MBox.below (by repeat (first | with_reducible exact K0.out | with_reducible apply MBox.drewN | with_reducible apply MBox.drew | (with_reducible refine MBox.newAt ?_ ?_ <;> first | (simp; done) | rfl) | with_reducible apply MBox.alloc)) b)
    have K1 : Hid (Box _ (w.heap.size + 1) (c)) := Lib.hid (Box.below (by repeat (first | with_reducible exact K1.out | with_reducible apply Box.drewN | with_reducible apply Box.drew | (with_reducible refine Box.newAt ?_ ?_ <;> first | (simp; done) | rfl) | with_reducible apply Box.alloc)) b)
    have K2 : Hid (Box _ (w.heap.size + 1 + 1) (zero)) := Lib.hid (Box.below (by repeat (first | with_reducible exact K2.out | with_reducible apply Box.drewN | with_reducible apply Box.drew | (with_reducible refine Box.newAt ?_ ?_ <;> first | (simp; done) | rfl) | with_reducible apply Box.alloc)) b)
    try clear k0a k0b k0c k0d k0e k0g k0h k0i k0j k0k k0l k0m k0n k0o k0p k0q k0z
    have k0z := K0.out.lt
    obtain ⟨k0a, k0b, k0c, k0d, k0e, k0g, k0h, k0i, k0j, k0k, k0l, k0m, k0n, k0o, k0p, k0q⟩ := K0.out.cell
    try clear k1a k1b k1c k1d k1z
    have k1z := K1.out.lt
    obtain ⟨k1a, k1b, k1c, k1d⟩ := K1.out.cell
    try clear k2a k2b k2c k2d k2z
    have k2z := K2.out.lt
    obtain ⟨k2a, k2b, k2c, k2d⟩ := K2.out.cell
    try clear k2f
    have k2f := K2.out.frozen
    clear b
    go_wp2_with fail
    try simp only [Exit.inBlock, Exit.then]
    refine bodyPost_ret (res_card2 Try.results19 rfl (Box.set_ K2.out zero)) rfl ?_
    exact ⟨by rw [HT.out]; rfl, by repeat (first | with_reducible exact Below.refl _ _ | with_reducible exact HB.out | with_reducible apply Below.drew | with_reducible apply bdN | with_reducible refine Below.alloc ?_ (by first | exact Nat.le_refl _ | with_reducible exact HB.out.size | omega | (simp; done) | (simp; omega) | (have := HB.out.size; simp at *; omega)) _ | with_reducible refine Below.setCell ?_ (by first | exact Nat.le_refl _ | with_reducible exact HB.out.size | omega | (simp; done) | (simp; omega) | (have := HB.out.size; simp at *; omega)) _)⟩
  · rw [hm] at HI
    cases hc : c.ok
    · have HT := Lib.hid (show mcR m c = (zero, false) by unfold mcR; rw [if_neg (by simp [hc])])
      rw [hc] at HJ
      clear hm hc
      go_wp2_with ((with_reducible refine take_map rfl _ rfl K0.out ?_ ?_); rfl)
      clear K0
      go_wp2_with fail
      refine ((HI.out _)).mono ?_
      rintro e w1 ⟨rfl, b⟩
      have Sw1 := Lib.hid b.size
      have HB := Lib.hid (chain0 (w := w) (by repeat (first | with_reducible exact Below.refl _ _ | with_reducible exact HB.out | with_reducible apply Below.drew | with_reducible apply bdN | with_reducible refine Below.alloc ?_ (by first | exact Nat.le_refl _ | with_reducible exact HB.out.size | omega | (simp; done) | (simp; omega) | (have := HB.out.size; simp at *; omega)) _ | with_reducible refine Below.setCell ?_ (by first | exact Nat.le_refl _ | with_reducible exact HB.out.size | omega | (simp; done) | (simp; omega) | (have := HB.out.size; simp at *; omega)) _)) b)
      have K0 : Hid (MBox _ (w.heap.size) (⟨28, m⟩)) := Lib.hid (MBox.below (by repeat (first | with_reducible exact K0.out | with_reducible apply MBox.drewN | with_reducible apply MBox.drew | (with_reducible refine MBox.newAt ?_ ?_ <;> first | (simp; done) | rfl) | with_reducible apply MBox.alloc)) b)
      have K1 : Hid (Box _ (w.heap.size + 1) (c)) := Lib.hid (Box.below (by repeat (first | with_reducible exact K1.out | with_reducible apply Box.drewN | with_reducible apply Box.drew | (with_reducible refine Box.newAt ?_ ?_ <;> first | (simp; done) | rfl) | with_reducible apply Box.alloc)) b)
      have K2 : Hid (Box _ (w.heap.size + 1 + 1) (zero)) := Lib.hid (Box.below (by repeat (first | with_reducible exact K2.out | with_reducible apply Box.drewN | with_reducible apply Box.drew | (with_reducible refine Box.newAt ?_ ?_ <;> first | (simp; done) | rfl) | with_reducible apply Box.alloc)) b)
      try clear k0a k0b k0c k0d k0e k0g k0h k0i k0j k0k k0l k0m k0n k0o k0p k0q k0z
      have k0z := K0.out.lt
      obtain ⟨k0a, k0b, k0c, k0d, k0e, k0g, k0h, k0i, k0j, k0k, k0l, k0m, k0n, k0o, k0p, k0q⟩ := K0.out.cell
      try clear k1a k1b k1c k1d k1z
      have k1z := K1.out.lt
      obtain ⟨k1a, k1b, k1c, k1d⟩ := K1.out.cell
      try clear k2a k2b k2c k2d k2z
      have k2z := K2.out.lt
      obtain ⟨k2a, k2b, k2c, k2d⟩ := K2.out.cell
      try clear k2f
      have k2f := K2.out.frozen
      clear b
      go_wp2_with fail
      refine ((HJ.out _)).mono ?_
      rintro e w2 ⟨rfl, b⟩
      have Sw2 := Lib.hid b.size
      have HB := Lib.hid (chain0 (w := w) (by repeat (first | with_reducible exact Below.refl _ _ | with_reducible exact HB.out | with_reducible apply Below.drew | with_reducible apply bdN | with_reducible refine Below.alloc ?_ (by first | exact Nat.le_refl _ | with_reducible exact HB.out.size | omega | (simp; done) | (simp; omega) | (have := HB.out.size; simp at *; omega)) _ | with_reducible refine Below.setCell ?_ (by first | exact Nat.le_refl _ | with_reducible exact HB.out.size | omega | (simp; done) | (simp; omega) | (have := HB.out.size; simp at *; omega)) _)) b)
      have K0 : Hid (MBox _ (w.heap.size) (⟨28, m⟩)) := Lib.hid (MBox.below (by repeat (first | with_reducible exact K0.out | with_reducible apply MBox.drewN | with_reducible apply MBox.drew | (with_reducible refine MBox.newAt ?_ ?_ <;> first | (simp; done) | rfl) | with_reducible apply MBox.alloc)) b)
      have K1 : Hid (Box _ (w.heap.size + 1) (c)) := Lib.hid (Box.below (by repeat (first | with_reducible exact K1.out | with_reducible apply Box.drewN | with_reducible apply Box.drew | (with_reducible refine Box.newAt ?_ ?_ <;> first | (simp; done) | rfl) | with_reducible apply Box.alloc)) b)
      have K2 : Hid (Box _ (w.heap.size + 1 + 1) (zero)) := Lib.hid (Box.below (by repeat (first | with_reducible exact K2.out | with_reducible apply Box.drewN | with_reducible apply Box.drew | (with_reducible refine Box.newAt ?_ ?_ <;> first | (simp; done) | rfl) | with_reducible apply Box.alloc)) b)
      try clear k0a k0b k0c k0d k0e k0g k0h k0i k0j k0k k0l k0m k0n k0o k0p k0q k0z
      have k0z := K0.out.lt
      obtain ⟨k0a, k0b, k0c, k0d, k0e, k0g, k0h, k0i, k0j, k0k, k0l, k0m, k0n, k0o, k0p, k0q⟩ := K0.out.cell
      try clear k1a k1b k1c k1d k1z
      have k1z := K1.out.lt
      obtain ⟨k1a, k1b, k1c, k1d⟩ := K1.out.cell
      try clear k2a k2b k2c k2d k2z
      have k2z := K2.out.lt
      obtain ⟨k2a, k2b, k2c, k2d⟩ := K2.out.cell
      try clear k2f
      have k2f := K2.out.frozen
      clear b
      go_wp2_with fail
      try simp only [Exit.inBlock, Exit.then]
      refine bodyPost_ret (res_card2 Try.results19 rfl (Box.set_ K2.out zero)) rfl ?_
      exact ⟨by rw [HT.out]; rfl, by repeat (first | with_reducible exact Below.refl _ _ | with_reducible exact HB.out | with_reducible apply Below.drew | with_reducible apply bdN | with_reducible refine Below.alloc ?_ (by first | exact Nat.le_refl _ | with_reducible exact HB.out.size | omega | (simp; done) | (simp; omega) | (have := HB.out.size; simp at *; omega)) _ | with_reducible refine Below.setCell ?_ (by first | exact Nat.le_refl _ | with_reducible exact HB.out.size | omega | (simp; done) | (simp; omega) | (have := HB.out.size; simp at *; omega)) _)⟩
    · have HT := Lib.hid (show mcR m c = (img m c, true) by unfold mcR; rw [if_pos ⟨hm, hc⟩])
      have HIm := Lib.hid (fun w => l5_card m c w hm hc)
      rw [hc] at HJ
      clear hm hc
      go_wp2_with ((with_reducible refine take_map rfl _ rfl K0.out ?_ ?_); rfl)
      clear K0
      go_wp2_with fail
      refine ((HI.out _)).mono ?_
      rintro e w1 ⟨rfl, b⟩
      have Sw1 := Lib.hid b.size
      have HB := Lib.hid (chain0 (w := w) (by repeat (first | with_reducible exact Below.refl _ _ | with_reducible exact HB.out | with_reducible apply Below.drew | with_reducible apply bdN | with_reducible refine Below.alloc ?_ (by first | exact Nat.le_refl _ | with_reducible exact HB.out.size | omega | (simp; done) | (simp; omega) | (have := HB.out.size; simp at *; omega)) _ | with_reducible refine Below.setCell ?_ (by first | exact Nat.le_refl _ | with_reducible exact HB.out.size | omega | (simp; done) | (simp; omega) | (have := HB.out.size; simp at *; omega)) _)) b)
      have K0 : Hid (MBox _ (w.heap.size) (⟨28, m⟩)) := Lib.hid (MBox.below (by repeat (first | with_reducible exact K0.out | with_reducible apply MBox.drewN | with_reducible apply MBox.drew | (with_reducible refine MBox.newAt ?_ ?_ <;> first | (simp; done) | rfl) | with_reducible apply MBox.alloc)) b)
      have K1 : Hid (Box _ (w.heap.size + 1) (c)) := Lib.hid (Box.below (by repeat (first | with_reducible exact K1.out | with_reducible apply Box.drewN | with_reducible apply Box.drew | (with_reducible refine Box.newAt ?_ ?_ <;> first | (simp; done) | rfl) | with_reducible apply Box.alloc)) b)
      have K2 : Hid (Box _ (w.heap.size + 1 + 1) (zero)) := Lib.hid (Box.below (by repeat (first | with_reducible exact K2.out | with_reducible apply Box.drewN | with_reducible apply Box.drew | (with_reducible refine Box.newAt ?_ ?_ <;> first | (simp; done) | rfl) | with_reducible apply Box.alloc)) b)
      try clear k0a k0b k0c k0d k0e k0g k0h k0i k0j k0k k0l k0m k0n k0o k0p k0q k0z
      have k0z := K0.out.lt
      obtain ⟨k0a, k0b, k0c, k0d, k0e, k0g, k0h, k0i, k0j, k0k, k0l, k0m, k0n, k0o, k0p, k0q⟩ := K0.out.cell
      try clear k1a k1b k1c k1d k1z
      have k1z := K1.out.lt
      obtain ⟨k1a, k1b, k1c, k1d⟩ := K1.out.cell
      try clear k2a k2b k2c k2d k2z
      have k2z := K2.out.lt
      obtain ⟨k2a, k2b, k2c, k2d⟩ := K2.out.cell
      try clear k2f
      have k2f := K2.out.frozen
      clear b
      go_wp2_with fail
      refine ((HJ.out _)).mono ?_
      rintro e w2 ⟨rfl, b⟩
      have Sw2 := Lib.hid b.size
      have HB := Lib.hid (chain0 (w := w) (by repeat (first | with_reducible exact Below.refl _ _ | with_reducible exact HB.out | with_reducible apply Below.drew | with_reducible apply bdN | with_reducible refine Below.alloc ?_ (by first | exact Nat.le_refl _ | with_reducible exact HB.out.size | omega | (simp; done) | (simp; omega) | (have := HB.out.size; simp at *; omega)) _ | with_reducible refine Below.setCell ?_ (by first | exact Nat.le_refl _ | with_reducible exact HB.out.size | omega | (simp; done) | (simp; omega) | (have := HB.out.size; simp at *; omega)) _)) b)
      have K0 : Hid (MBox _ (w.heap.size) (⟨28, m⟩)) := Lib.hid (MBox.below (by repeat (first | with_reducible exact K0.out | with_reducible apply MBox.drewN | with_reducible apply MBox.drew | (with_reducible refine MBox.newAt ?_ ?_ <;> first | (simp; done) | rfl) | with_reducible apply MBox.alloc)) b)
      have K1 : Hid (Box _ (w.heap.size + 1) (c)) := Lib.hid (Box.below (by repeat (first | with_reducible exact K1.out | with_reducible apply Box.drewN | with_reducible apply Box.drew | (with_reducible refine Box.newAt ?_ ?_ <;> first | (simp; done) | rfl) | with_reducible apply Box.alloc)) b)
      have K2 : Hid (Box _ (w.heap.size + 1 + 1) (zero)) := Lib.hid (Box.below (by repeat (first | with_reducible exact K2.out | with_reducible apply Box.drewN | with_reducible apply Box.drew | (with_reducible refine Box.newAt ?_ ?_ <;> first | (simp; done) | rfl) | with_reducible apply Box.alloc)) b)
      try clear k0a k0b k0c k0d k0e k0g k0h k0i k0j k0k k0l k0m k0n k0o k0p k0q k0z
      have k0z := K0.out.lt
      obtain ⟨k0a, k0b, k0c, k0d, k0e, k0g, k0h, k0i, k0j, k0k, k0l, k0m, k0n, k0o, k0p, k0q⟩ := K0.out.cell
      try clear k1a k1b k1c k1d k1z
      have k1z := K1.out.lt
      obtain ⟨k1a, k1b, k1c, k1d⟩ := K1.out.cell
      try clear k2a k2b k2c k2d k2z
      have k2z := K2.out.lt
      obtain ⟨k2a, k2b, k2c, k2d⟩ := K2.out.cell
      try clear k2f
      have k2f := K2.out.frozen
      clear b
      go_wp2_with ((with_reducible refine take_map rfl _ rfl K0.out ?_ ?_); rfl)
      go_wp2_with fail
      refine ((HIm.out _)).mono ?_
      rintro e w3 ⟨rfl, b⟩
      have Sw3 := Lib.hid b.size
      have HB := Lib.hid (chain0 (w := w) (by repeat (first | with_reducible exact Below.refl _ _ | with_reducible exact HB.out | with_reducible apply Below.drew | with_reducible apply bdN | with_reducible refine Below.alloc ?_ (by first | exact Nat.le_refl _ | with_reducible exact HB.out.size | omega | (simp; done) | (simp; omega) | (have := HB.out.size; simp at *; omega)) _ | with_reducible refine Below.setCell ?_ (by first | exact Nat.le_refl _ | with_reducible exact HB.out.size | omega | (simp; done) | (simp; omega) | (have := HB.out.size; simp at *; omega)) _)) b)
      have K0 : Hid (MBox _ (w.heap.size) (⟨28, m⟩)) := Lib.hid (MBox.below (by repeat (first | with_reducible exact K0.out | with_reducible apply MBox.drewN | with_reducible apply MBox.drew | (with_reducible refine MBox.newAt ?_ ?_ <;> first | (simp; done) | rfl) | with_reducible apply MBox.alloc)) b)
      have K1 : Hid (Box _ (w.heap.size + 1) (c)) := Lib.hid (Box.below (by repeat (first | with_reducible exact K1.out | with_reducible apply Box.drewN | with_reducible apply Box.drew | (with_reducible refine Box.newAt ?_ ?_ <;> first | (simp; done) | rfl) | with_reducible apply Box.alloc)) b)
      have K2 : Hid (Box _ (w.heap.size + 1 + 1) (zero)) := Lib.hid (Box.below (by repeat (first | with_reducible exact K2.out | with_reducible apply Box.drewN | with_reducible apply Box.drew | (with_reducible refine Box.newAt ?_ ?_ <;> first | (simp; done) | rfl) | with_reducible apply Box.alloc)) b)
      try clear k0a k0b k0c k0d k0e k0g k0h k0i k0j k0k k0l k0m k0n k0o k0p k0q k0z
      have k0z := K0.out.lt
      obtain ⟨k0a, k0b, k0c, k0d, k0e, k0g, k0h, k0i, k0j, k0k, k0l, k0m, k0n, k0o, k0p, k0q⟩ := K0.out.cell
      try clear k1a k1b k1c k1d k1z
      have k1z := K1.out.lt
      obtain ⟨k1a, k1b, k1c, k1d⟩ := K1.out.cell
      try clear k2a k2b k2c k2d k2z
      have k2z := K2.out.lt
      obtain ⟨k2a, k2b, k2c, k2d⟩ := K2.out.cell
      try clear k2f
      have k2f := K2.out.frozen
      clear b
      go_wp2_with fail
      try simp only [Exit.inBlock, Exit.then]
      refine bodyPost_ret (res_card2 Try.results19 rfl (Box.set_ K2.out (img m c))) rfl ?_
      exact ⟨by rw [HT.out]; rfl, by repeat (first | with_reducible exact Below.refl _ _ | with_reducible exact HB.out | with_reducible apply Below.drew | with_reducible apply bdN | with_reducible refine Below.alloc ?_ (by first | exact Nat.le_refl _ | with_reducible exact HB.out.size | omega | (simp; done) | (simp; omega) | (have := HB.out.size; simp at *; omega)) _ | with_reducible refine Below.setCell ?_ (by first | exact Nat.le_refl _ | with_reducible exact HB.out.size | omega | (simp; done) | (simp; omega) | (have := HB.out.size; simp at *; omega)) _)⟩
end Go.Proofs.Ytngfdfgeoieebaa.maps
