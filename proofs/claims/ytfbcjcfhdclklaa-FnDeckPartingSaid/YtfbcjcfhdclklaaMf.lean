/- Maps: the image of a card, the program's and the model's. -/
import Derived.Test.YtfbcjcfhdclklaaMe
namespace Go.Proofs.Ytfbcjcfhdclklaa.maps
open Go.RowKit
open cards
set_option linter.unusedVariables false

theorem at4 {x : Cd} {i : Int} (h : 0 ≤ i ∧ i ≤ 3) : (#[Value.int .i64 x.a, .int .i64 x.b, .int .i64 x.c, .int .i64 x.d] : Array Value)[i.toNat]? = some (.int .i64 (get4 x i)) := by
  rcases int4 h with rfl | rfl | rfl | rfl <;> rfl
theorem Box.atI {w : World} {g : Nat} {x : Cd} (h : Box w g x) {i : Int} (hi : 0 ≤ i ∧ i ≤ 3) : w.cell? ⟨g, i.toNat, none⟩ = some (.int .i64 (get4 x i)) := by
  unfold Box at h
  rw [cell_of_row w g _ _ _ _ h]; exact at4 hi
theorem MBox.atT {w : World} {g : Nat} {x : Mv} (h : MBox w g x) {i : Int} (hi : 0 ≤ i ∧ i ≤ 3) : w.cell? ⟨g, i.toNat, none⟩ = some (.int .i64 (get4 x.m.t i)) := by
  rw [h.cellI]
  rcases int4 hi with rfl | rfl | rfl | rfl <;> rfl
theorem MBox.atV {w : World} {g : Nat} {x : Mv} (h : MBox w g x) {i v : Int} (hi : 0 ≤ i ∧ i ≤ 3) (hv : 0 ≤ v ∧ v ≤ 2) : w.cell? ⟨g, 4 + i.toNat * 3 + v.toNat, none⟩ = some (.int .i64 (get3 (getV x.m i) v)) := by
  rw [h.cellI]
  rcases int4 hi with rfl | rfl | rfl | rfl <;> rcases int3 hv with rfl | rfl | rfl <;> rfl
theorem Box.set0 {w : World} {g : Nat} {x : Cd} (h : Box w g x) (a : Int) : Box (w.setCell ⟨g, 0, none⟩ (.int .i64 a)) g ⟨a, x.b, x.c, x.d⟩ := by
  unfold Box at h ⊢; rw [heap_setCell_same _ g _ _ _ _ h]; rfl
theorem Box.set1 {w : World} {g : Nat} {x : Cd} (h : Box w g x) (a : Int) : Box (w.setCell ⟨g, 1, none⟩ (.int .i64 a)) g ⟨x.a, a, x.c, x.d⟩ := by
  unfold Box at h ⊢; rw [heap_setCell_same _ g _ _ _ _ h]; rfl
theorem Box.set2 {w : World} {g : Nat} {x : Cd} (h : Box w g x) (a : Int) : Box (w.setCell ⟨g, 2, none⟩ (.int .i64 a)) g ⟨x.a, x.b, a, x.d⟩ := by
  unfold Box at h ⊢; rw [heap_setCell_same _ g _ _ _ _ h]; rfl
theorem Box.set3 {w : World} {g : Nat} {x : Cd} (h : Box w g x) (a : Int) : Box (w.setCell ⟨g, 3, none⟩ (.int .i64 a)) g ⟨x.a, x.b, x.c, a⟩ := by
  unfold Box at h ⊢; rw [heap_setCell_same _ g _ _ _ _ h]; rfl
theorem card_0 (x : Cd) (w : World) : (Instr.index 48 x.val (.int .i64 0)).run Try.prog w = .ok (.int .i64 x.a) w := by kernel_rfl
theorem card_1 (x : Cd) (w : World) : (Instr.index 48 x.val (.int .i64 1)).run Try.prog w = .ok (.int .i64 x.b) w := by kernel_rfl
theorem card_2 (x : Cd) (w : World) : (Instr.index 48 x.val (.int .i64 2)).run Try.prog w = .ok (.int .i64 x.c) w := by kernel_rfl
theorem card_3 (x : Cd) (w : World) : (Instr.index 48 x.val (.int .i64 3)).run Try.prog w = .ok (.int .i64 x.d) w := by kernel_rfl
theorem load_card {w : World} {g : Nat} {x : Cd} (h : Box w g x) : (loadVar 48 ⟨g, 0, none⟩).run Try.prog w = .ok x.val w :=
  run_loadVar_row w g 48 48 _ (0, 0) _ h Try.underlying48 rfl (by kernel_rfl)
theorem res_card {fn : Func} {i : Tmp} (hf : fn.results = #[.cell i 48]) {tmps : Array Value} {w : World} {g : Nat} {m : Cd} (ht : tmps.getD i undef = .pointer (some ⟨g, 0, none⟩)) (h : Box w g m) :
    (results fn tmps).run Try.prog w = .ok m.val w := by
  have hl := load_card h
  rw [Array.getD_eq_getD_getElem?] at ht
  simp only [results, hf]
  simp [Sem.run_bind, ht, asAddr, hl]
theorem res_card2 {fn : Func} {i u : Tmp} (hf : fn.results = #[.cell i 48, .tmp u]) {tmps : Array Value} {w : World} {g : Nat} {m : Cd} (ht : tmps.getD i undef = .pointer (some ⟨g, 0, none⟩)) (h : Box w g m) :
    (results fn tmps).run Try.prog w = .ok (.tuple #[m.val, tmps.getD u undef]) w := by
  have hl := load_card h
  rw [results_cell_tmp hf, ht]
  simp [asAddr, hl, Result.andThen]
/-- The image of a card as far as it is told. -/
def imgTo (m : Mp) (c : Cd) (k : Nat) : Cd := ⟨if 0 < k then (img m c).a else 0, if 1 < k then (img m c).b else 0, if 2 < k then (img m c).c else 0, if 3 < k then (img m c).d else 0⟩

set_option maxRecDepth 100000 in
set_option maxHeartbeats 4000000 in
theorem image_run (m : Mp) (c : Cd) (w : World) (hm : m.ok = true) (hc : c.ok = true) :
    Calls Try.prog 109 #[m.val, c.val] w fun e w' => e = .returned (img m c).val ∧ Below w.heap.size w w' := by
  have hk := Mp.ok_iff.1 hm
  have ht := Cd.pm_iff.1 hk.2.2.2.2
  have HC := Lib.hid hc
  have W0 : Hid (MBox ((((w.alloc (Mv.obj ⟨86, m⟩)).alloc c.obj).alloc zero.obj).alloc zero.obj) w.heap.size ⟨86, m⟩) := Lib.hid ((((MBox.newAt rfl rfl).alloc _).alloc _).alloc _)
  have W1 : Hid (Box ((((w.alloc (Mv.obj ⟨86, m⟩)).alloc c.obj).alloc zero.obj).alloc zero.obj) (w.heap.size + 1) c) := Lib.hid (((Box.newAt (by simp) rfl).alloc _).alloc _)
  have W2 : Hid (Box ((((w.alloc (Mv.obj ⟨86, m⟩)).alloc c.obj).alloc zero.obj).alloc zero.obj) (w.heap.size + 1 + 1) zero) := Lib.hid ((Box.newAt (by simp) rfl).alloc _)
  have W3 : Hid (Box ((((w.alloc (Mv.obj ⟨86, m⟩)).alloc c.obj).alloc zero.obj).alloc zero.obj) (w.heap.size + 1 + 1 + 1) zero) := Lib.hid (Box.newAt (by simp) rfl)
  clear hm hk hc
  go_enter Try.func109, Try.ntmps109
  go_wp2_with fail
  go_loopw [6, 7, 11] (fun _ _ i wr => ∃ k : Nat, k ≤ 4 ∧ i = .int .i64 k ∧ Hid (Below w.heap.size w wr) ∧ Hid (MBox wr w.heap.size ⟨86, m⟩) ∧ Hid (Box wr (w.heap.size + 1) c) ∧ Hid (Box wr (w.heap.size + 1 + 1) zero) ∧ Hid (Box wr (w.heap.size + 1 + 1 + 1) (imgTo m c k))) (fun _ _ i _ => 4 - (intOf i).toNat)
  case atStart => exact ⟨0, Nat.zero_le _, rfl, Lib.hid (by repeat (first | with_reducible exact Below.refl _ _ | with_reducible exact HB.out | with_reducible apply Below.drew | with_reducible apply bdN | with_reducible refine Below.alloc ?_ (by first | exact Nat.le_refl _ | with_reducible exact HB.out.size | omega | (simp; done) | (simp; omega) | (have := HB.out.size; simp at *; omega)) _ | with_reducible refine Below.setCell ?_ (by first | exact Nat.le_refl _ | with_reducible exact HB.out.size | omega | (simp; done) | (simp; omega) | (have := HB.out.size; simp at *; omega)) _)), W0, W1, W2, W3⟩
  case round =>
    clear W0 W1 W2 W3
    obtain ⟨k, hk, rfl, HB, K0, K1, K2, K3⟩ := hrel
    have k0z := K0.out.lt
    have k1z := K1.out.lt
    have k3z := K3.out.lt
    have k3f := K3.out.frozen
    obtain ⟨k3a, k3b, k3c, k3d⟩ := K3.out.cell
    rcases (show k = 0 ∨ k = 1 ∨ k = 2 ∨ k = 3 ∨ k = 4 by omega) with rfl | rfl | rfl | rfl | rfl
    · have i0 := card_0 m.t
      have a0 := Box.atI K1.out (i := m.t.a) (by omega)
      have ax := get4_ok HC.out (i := m.t.a)
      have t0 : 0 ≤ m.t.a := by omega
      have t1 : m.t.a < 4 := by omega
      have HE := Lib.hid (show (img m c).a = get3 m.v0 (get4 c m.t.a) from rfl)
      generalize get4 c m.t.a = x at a0 ax HE
      have x0 : 0 ≤ x := by omega
      have x1 : x < 3 := by omega
      have a1 : wr.cell? ⟨w.heap.size, 4 + x.toNat, none⟩ = some (.int .i64 (get3 m.v0 x)) := MBox.atV K0.out (i := 0) (v := x) (by omega) ax
      rw [← HE.out] at a1
      clear ht ax
      go_wp2_with fail
      go_region
      go_wp2_with fail
      go_roundw
      case rel => exact ⟨0 + 1, by omega, by go_num, Lib.hid (by repeat (first | with_reducible exact Below.refl _ _ | with_reducible exact HB.out | with_reducible apply Below.drew | with_reducible apply bdN | with_reducible refine Below.alloc ?_ (by first | exact Nat.le_refl _ | with_reducible exact HB.out.size | omega | (simp; done) | (simp; omega) | (have := HB.out.size; simp at *; omega)) _ | with_reducible refine Below.setCell ?_ (by first | exact Nat.le_refl _ | with_reducible exact HB.out.size | omega | (simp; done) | (simp; omega) | (have := HB.out.size; simp at *; omega)) _)), Lib.hid (MBox.far (MBox.drewN K0.out _) (by simp only; omega) _), Lib.hid (Box.far (Box.drewN K1.out _) (by simp only; omega) _), Lib.hid (Box.far (Box.drewN K2.out _) (by simp only; omega) _), Lib.hid (Box.set0 (Box.drewN K3.out _) _)⟩
      case measure => simp [intOf]
    · have i0 := card_1 m.t
      have a0 := Box.atI K1.out (i := m.t.b) (by omega)
      have ax := get4_ok HC.out (i := m.t.b)
      have t0 : 0 ≤ m.t.b := by omega
      have t1 : m.t.b < 4 := by omega
      have HE := Lib.hid (show (img m c).b = get3 m.v1 (get4 c m.t.b) from rfl)
      generalize get4 c m.t.b = x at a0 ax HE
      have x0 : 0 ≤ x := by omega
      have x1 : x < 3 := by omega
      have a1 : wr.cell? ⟨w.heap.size, 7 + x.toNat, none⟩ = some (.int .i64 (get3 m.v1 x)) := MBox.atV K0.out (i := 1) (v := x) (by omega) ax
      rw [← HE.out] at a1
      clear ht ax
      go_wp2_with fail
      go_region
      go_wp2_with fail
      go_roundw
      case rel => exact ⟨1 + 1, by omega, by go_num, Lib.hid (by repeat (first | with_reducible exact Below.refl _ _ | with_reducible exact HB.out | with_reducible apply Below.drew | with_reducible apply bdN | with_reducible refine Below.alloc ?_ (by first | exact Nat.le_refl _ | with_reducible exact HB.out.size | omega | (simp; done) | (simp; omega) | (have := HB.out.size; simp at *; omega)) _ | with_reducible refine Below.setCell ?_ (by first | exact Nat.le_refl _ | with_reducible exact HB.out.size | omega | (simp; done) | (simp; omega) | (have := HB.out.size; simp at *; omega)) _)), Lib.hid (MBox.far (MBox.drewN K0.out _) (by simp only; omega) _), Lib.hid (Box.far (Box.drewN K1.out _) (by simp only; omega) _), Lib.hid (Box.far (Box.drewN K2.out _) (by simp only; omega) _), Lib.hid (Box.set1 (Box.drewN K3.out _) _)⟩
      case measure => simp [intOf]
    · have i0 := card_2 m.t
      have a0 := Box.atI K1.out (i := m.t.c) (by omega)
      have ax := get4_ok HC.out (i := m.t.c)
      have t0 : 0 ≤ m.t.c := by omega
      have t1 : m.t.c < 4 := by omega
      have HE := Lib.hid (show (img m c).c = get3 m.v2 (get4 c m.t.c) from rfl)
      generalize get4 c m.t.c = x at a0 ax HE
      have x0 : 0 ≤ x := by omega
      have x1 : x < 3 := by omega
      have a1 : wr.cell? ⟨w.heap.size, 10 + x.toNat, none⟩ = some (.int .i64 (get3 m.v2 x)) := MBox.atV K0.out (i := 2) (v := x) (by omega) ax
      rw [← HE.out] at a1
      clear ht ax
      go_wp2_with fail
      go_region
      go_wp2_with fail
      go_roundw
      case rel => exact ⟨2 + 1, by omega, by go_num, Lib.hid (by repeat (first | with_reducible exact Below.refl _ _ | with_reducible exact HB.out | with_reducible apply Below.drew | with_reducible apply bdN | with_reducible refine Below.alloc ?_ (by first | exact Nat.le_refl _ | with_reducible exact HB.out.size | omega | (simp; done) | (simp; omega) | (have := HB.out.size; simp at *; omega)) _ | with_reducible refine Below.setCell ?_ (by first | exact Nat.le_refl _ | with_reducible exact HB.out.size | omega | (simp; done) | (simp; omega) | (have := HB.out.size; simp at *; omega)) _)), Lib.hid (MBox.far (MBox.drewN K0.out _) (by simp only; omega) _), Lib.hid (Box.far (Box.drewN K1.out _) (by simp only; omega) _), Lib.hid (Box.far (Box.drewN K2.out _) (by simp only; omega) _), Lib.hid (Box.set2 (Box.drewN K3.out _) _)⟩
      case measure => simp [intOf]
    · have i0 := card_3 m.t
      have a0 := Box.atI K1.out (i := m.t.d) (by omega)
      have ax := get4_ok HC.out (i := m.t.d)
      have t0 : 0 ≤ m.t.d := by omega
      have t1 : m.t.d < 4 := by omega
      have HE := Lib.hid (show (img m c).d = get3 m.v3 (get4 c m.t.d) from rfl)
      generalize get4 c m.t.d = x at a0 ax HE
      have x0 : 0 ≤ x := by omega
      have x1 : x < 3 := by omega
      have a1 : wr.cell? ⟨w.heap.size, 13 + x.toNat, none⟩ = some (.int .i64 (get3 m.v3 x)) := MBox.atV K0.out (i := 3) (v := x) (by omega) ax
      rw [← HE.out] at a1
      clear ht ax
      go_wp2_with fail
      go_region
      go_wp2_with fail
      go_roundw
      case rel => exact ⟨3 + 1, by omega, by go_num, Lib.hid (by repeat (first | with_reducible exact Below.refl _ _ | with_reducible exact HB.out | with_reducible apply Below.drew | with_reducible apply bdN | with_reducible refine Below.alloc ?_ (by first | exact Nat.le_refl _ | with_reducible exact HB.out.size | omega | (simp; done) | (simp; omega) | (have := HB.out.size; simp at *; omega)) _ | with_reducible refine Below.setCell ?_ (by first | exact Nat.le_refl _ | with_reducible exact HB.out.size | omega | (simp; done) | (simp; omega) | (have := HB.out.size; simp at *; omega)) _)), Lib.hid (MBox.far (MBox.drewN K0.out _) (by simp only; omega) _), Lib.hid (Box.far (Box.drewN K1.out _) (by simp only; omega) _), Lib.hid (Box.far (Box.drewN K2.out _) (by simp only; omega) _), Lib.hid (Box.set3 (Box.drewN K3.out _) _)⟩
      case measure => simp [intOf]
    · have k2z := K2.out.lt
      have k2f := K2.out.frozen
      obtain ⟨k2a, k2b, k2c, k2d⟩ := K2.out.cell
      clear ht
      go_wp2_with fail
      try simp only [Exit.inBlock, Exit.then]
      refine bodyPost_ret (res_card Try.results109 rfl (Box.set_ K2.out (img m c))) rfl ?_
      exact ⟨rfl, by repeat (first | with_reducible exact Below.refl _ _ | with_reducible exact HB.out | with_reducible apply Below.drew | with_reducible apply bdN | with_reducible refine Below.alloc ?_ (by first | exact Nat.le_refl _ | with_reducible exact HB.out.size | omega | (simp; done) | (simp; omega) | (have := HB.out.size; simp at *; omega)) _ | with_reducible refine Below.setCell ?_ (by first | exact Nat.le_refl _ | with_reducible exact HB.out.size | omega | (simp; done) | (simp; omega) | (have := HB.out.size; simp at *; omega)) _)⟩

end Go.Proofs.Ytfbcjcfhdclklaa.maps
