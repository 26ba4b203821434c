/- PlaneOf, the program's and the model's. -/
import Derived.Test.YtdhcdogmbclhaaaYe
import Derived.Test.YtdhcdogmbclhaaaYf
namespace Go.Proofs.Ytdhcdogmbclhaaa.planes
open Go.RowKit
open cards reg
set_option linter.unusedVariables false

noncomputable def poR (a b c : Cd) : List Cd × Bool := if triB a b c = true then (span [a, b, c], true) else ([], false)
theorem poR_len (a b c : Cd) : (poR a b c).1.length ≤ 100000000 := by
  unfold poR
  split
  · exact Nat.le_trans (span_le _) (by omega)
  · simp
theorem own_P {w : World} {B n c : Nat} {p : Option Addr} {l : List Cd} (hn : l.length = n) (h : Own w B (.slice p n c) l) : OwnP w B p n c l := ⟨hn, .inl h⟩

set_option maxRecDepth 100000 in
set_option maxHeartbeats 8000000 in
theorem impl_po (a b c : Cd) (w : World) :
    Calls Try.prog 28 #[a.val, b.val, c.val] w fun e w' => ∃ p n k, e = .returned (.tuple #[.slice p n k, .bool (poR a b c).2]) ∧ OwnP w' w.heap.size p n k (poR a b c).1 ∧ Below w.heap.size w w' := by
  have HI := Lib.hid (fun w => is_tri a b c w)
  have K0 : Hid (Box (((w.alloc a.obj).alloc b.obj).alloc c.obj) (w.heap.size) a) := Lib.hid (((Box.newAt rfl rfl).alloc _).alloc _)
  have K1 : Hid (Box (((w.alloc a.obj).alloc b.obj).alloc c.obj) (w.heap.size + 1) b) := Lib.hid ((Box.newAt (by simp) rfl).alloc _)
  have K2 : Hid (Box (((w.alloc a.obj).alloc b.obj).alloc c.obj) (w.heap.size + 1 + 1) c) := Lib.hid (Box.newAt (by simp) rfl)
  have HB : Hid (Below w.heap.size w (((w.alloc a.obj).alloc b.obj).alloc c.obj)) := Lib.hid ((((Below.refl _ _).alloc (Nat.le_refl _) _).alloc (by simp) _).alloc (by simp; omega) _)
  have HZ := Lib.hid z36_size
  cases hh : triB a b c
  · have HT := Lib.hid (show poR a b c = ([], false) by unfold poR; rw [if_neg (by simp [hh])])
    rw [hh] at HI
    clear hh
    go_enter Try.func28, Try.ntmps28
    go_upto_region 1 with fail
    generalize ((w.alloc a.obj).alloc b.obj).alloc c.obj = W at *
    obtain ⟨k0a, k0b, k0c, k0d⟩ := K0.out.cell
    obtain ⟨k1a, k1b, k1c, k1d⟩ := K1.out.cell
    obtain ⟨k2a, k2b, k2c, k2d⟩ := K2.out.cell
    go_wp2_with fail
    refine (HI.out _).mono ?_
    rintro e w1 ⟨rfl, q⟩
    have HB := Lib.hid (chain0 HB.out q)
    clear q k0a k0b k0c k0d k1a k1b k1c k1d k2a k2b k2c k2d K0 K1 K2
    go_wp2_with fail
    go_ret2
    exact ⟨_, 0, _, ret_two (by rw [HT.out]), by rw [HT.out]; exact own_P rfl (Own.empty _ _ HB.out.size), by repeat (first | with_reducible exact Below.refl _ _ | with_reducible exact HB.out | with_reducible apply Below.drew | with_reducible apply bdN | with_reducible refine Below.alloc ?_ (by first | exact Nat.le_refl _ | with_reducible exact HB.out.size | omega | (simp; done) | (simp; omega) | (have := HB.out.size; simp at *; omega)) _ | with_reducible refine Below.setCell ?_ (by first | exact Nat.le_refl _ | with_reducible exact HB.out.size | omega | (simp; done) | (simp; omega) | (have := HB.out.size; simp at *; omega)) _)⟩
  · have HT := Lib.hid (show poR a b c = (span [a, b, c], true) by unfold poR; rw [if_pos hh])
    have HP := Lib.hid (fun w => plane_of a b c w hh)
    rw [hh] at HI
    clear hh
    go_enter Try.func28, Try.ntmps28
    go_upto_region 1 with fail
    generalize ((w.alloc a.obj).alloc b.obj).alloc c.obj = W at *
    obtain ⟨k0a, k0b, k0c, k0d⟩ := K0.out.cell
    obtain ⟨k1a, k1b, k1c, k1d⟩ := K1.out.cell
    obtain ⟨k2a, k2b, k2c, k2d⟩ := K2.out.cell
    go_wp2_with fail
    refine (HI.out _).mono ?_
    rintro e w1 ⟨rfl, q⟩
    have HB := Lib.hid (chain0 HB.out q)
    have K0 := Lib.hid (K0.out.below q)
    have K1 := Lib.hid (K1.out.below q)
    have K2 := Lib.hid (K2.out.below q)
    clear q k0a k0b k0c k0d k1a k1b k1c k1d k2a k2b k2c k2d
    obtain ⟨k0a, k0b, k0c, k0d⟩ := K0.out.cell
    obtain ⟨k1a, k1b, k1c, k1d⟩ := K1.out.cell
    obtain ⟨k2a, k2b, k2c, k2d⟩ := K2.out.cell
    go_wp2_with fail
    refine (HP.out _).mono ?_
    rintro e w2 ⟨rfl, hl, q⟩
    have HB2 := Lib.hid ((chain0 HB.out q).alloc (Nat.le_trans HB.out.size q.size) (.cells z36 37))
    have hw2 : w.heap.size ≤ w2.heap.size := Nat.le_trans HB.out.size q.size
    have K8 : Hid (VB (w2.alloc (.cells z36 37)) w2.heap.size 37 z36) := Lib.hid (VB.newAt rfl rfl)
    have HL := Lib.hid hl
    have HS0 := Lib.hid (av_size9 hl)
    have HS1 := Lib.hid (av_one (span [a, b, c]))
    clear q hl k0a k0b k0c k0d k1a k1b k1c k1d k2a k2b k2c k2d K0 K1 K2 HB
    go_upto_region 4 with ((with_reducible refine store_s9 rfl _ _ rfl K8.out HZ.out ?_ (av (span [a, b, c])) HS0.out HS1.out ?_ ?_); rfl; rfl; intro w3 hM hG)
    have HB3 := Lib.hid (HB2.out.grown hG HB2.out.size (fun k hk => by injection hk with hk; omega))
    have HM := Lib.hid hM
    clear hM hG K8 HB2
    obtain ⟨g8, hg8⟩ : ∃ g, w2.heap.size = g := ⟨_, rfl⟩
    rw [hg8] at HM hw2
    try rw [hg8]
    clear hg8
    go_wp2_with fail
    go_ret2
    exact ⟨_, 9, _, ret_two (by rw [HT.out]), by rw [HT.out]; exact ⟨HL.out, .inr ⟨g8, _, rfl, hw2, HM.out⟩⟩, HB3.out⟩

set_option maxRecDepth 100000 in
set_option maxHeartbeats 8000000 in
theorem spec_po (a b c : Cd) (w : World) :
    Calls Try.prog 26 #[a.val, b.val, c.val] w fun e w' => ∃ p n k, e = .returned (.tuple #[.slice p n k, .bool (poR a b c).2]) ∧ OwnP w' w.heap.size p n k (poR a b c).1 ∧ Below w.heap.size w w' := by
  have HI := Lib.hid (fun w => l6_open a b c w)
  have K0 : Hid (Box (((w.alloc a.obj).alloc b.obj).alloc c.obj) (w.heap.size) a) := Lib.hid (((Box.newAt rfl rfl).alloc _).alloc _)
  have K1 : Hid (Box (((w.alloc a.obj).alloc b.obj).alloc c.obj) (w.heap.size + 1) b) := Lib.hid ((Box.newAt (by simp) rfl).alloc _)
  have K2 : Hid (Box (((w.alloc a.obj).alloc b.obj).alloc c.obj) (w.heap.size + 1 + 1) c) := Lib.hid (Box.newAt (by simp) rfl)
  have HB : Hid (Below w.heap.size w (((w.alloc a.obj).alloc b.obj).alloc c.obj)) := Lib.hid ((((Below.refl _ _).alloc (Nat.le_refl _) _).alloc (by simp) _).alloc (by simp; omega) _)
  cases hh : triB a b c
  · have HT := Lib.hid (show poR a b c = ([], false) by unfold poR; rw [if_neg (by simp [hh])])
    rw [hh] at HI
    clear hh
    go_enter Try.func26, Try.ntmps26
    go_upto_region 1 with fail
    generalize ((w.alloc a.obj).alloc b.obj).alloc c.obj = W at *
    obtain ⟨k0a, k0b, k0c, k0d⟩ := K0.out.cell
    obtain ⟨k1a, k1b, k1c, k1d⟩ := K1.out.cell
    obtain ⟨k2a, k2b, k2c, k2d⟩ := K2.out.cell
    go_wp2_with fail
    refine (HI.out _).mono ?_
    rintro e w1 ⟨rfl, q⟩
    have HB := Lib.hid (chain0 HB.out q)
    clear q k0a k0b k0c k0d k1a k1b k1c k1d k2a k2b k2c k2d K0 K1 K2
    go_wp2_with fail
    go_ret2
    exact ⟨_, 0, _, ret_two (by rw [HT.out]), by rw [HT.out]; exact own_P rfl (Own.empty _ _ HB.out.size), by repeat (first | with_reducible exact Below.refl _ _ | with_reducible exact HB.out | with_reducible apply Below.drew | with_reducible apply bdN | with_reducible refine Below.alloc ?_ (by first | exact Nat.le_refl _ | with_reducible exact HB.out.size | omega | (simp; done) | (simp; omega) | (have := HB.out.size; simp at *; omega)) _ | with_reducible refine Below.setCell ?_ (by first | exact Nat.le_refl _ | with_reducible exact HB.out.size | omega | (simp; done) | (simp; omega) | (have := HB.out.size; simp at *; omega)) _)⟩
  · have HT := Lib.hid (show poR a b c = (span [a, b, c], true) by unfold poR; rw [if_pos hh])
    have HO := Lib.hid (triB_ok hh)
    rw [hh] at HI
    clear hh
    go_enter Try.func26, Try.ntmps26
    go_upto_region 1 with fail
    generalize ((w.alloc a.obj).alloc b.obj).alloc c.obj = W at *
    obtain ⟨k0a, k0b, k0c, k0d⟩ := K0.out.cell
    obtain ⟨k1a, k1b, k1c, k1d⟩ := K1.out.cell
    obtain ⟨k2a, k2b, k2c, k2d⟩ := K2.out.cell
    go_wp2_with fail
    refine (HI.out _).mono ?_
    rintro e w1 ⟨rfl, q⟩
    have HB := Lib.hid (chain0 HB.out q)
    have K0 := Lib.hid (K0.out.below q)
    have K1 := Lib.hid (K1.out.below q)
    have K2 := Lib.hid (K2.out.below q)
    clear q k0a k0b k0c k0d k1a k1b k1c k1d k2a k2b k2c k2d
    obtain ⟨k0a, k0b, k0c, k0d⟩ := K0.out.cell
    obtain ⟨k1a, k1b, k1c, k1d⟩ := K1.out.cell
    obtain ⟨k2a, k2b, k2c, k2d⟩ := K2.out.cell
    have HR : Hid (Rd (w1.alloc (.cells #[.int .i64 a.a, .int .i64 a.b, .int .i64 a.c, .int .i64 a.d, .int .i64 b.a, .int .i64 b.b, .int .i64 b.c, .int .i64 b.d, .int .i64 c.a, .int .i64 c.b, .int .i64 c.c, .int .i64 c.d] 33)) (some ⟨w1.heap.size, 0, none⟩) (flat [a, b, c])) := Lib.hid three_rd
    have HB2 := Lib.hid (HB.out.alloc HB.out.size (.cells #[.int .i64 a.a, .int .i64 a.b, .int .i64 a.c, .int .i64 a.d, .int .i64 b.a, .int .i64 b.b, .int .i64 b.c, .int .i64 b.d, .int .i64 c.a, .int .i64 c.b, .int .i64 c.c, .int .i64 c.d] 33))
    go_wp2_with fail
    refine (l6_span [a, b, c] _ 3 3 _ rfl (by omega) HR.out (by have := HO.out; simp [this.1, this.2.1, this.2.2])).mono ?_
    rintro e w2 ⟨u, rfl, hu, q⟩
    have HB := Lib.hid (chain0 HB2.out q)
    have HU := Lib.hid (hu.own.base HB2.out.size)
    obtain ⟨g, k, rfl, _, _⟩ := hu.form
    clear q hu k0a k0b k0c k0d k1a k1b k1c k1d k2a k2b k2c k2d K0 K1 K2 HR HB2
    go_wp2_with fail
    go_ret2
    exact ⟨_, _, _, ret_two (by rw [HT.out]), by rw [HT.out]; exact own_P rfl HU.out, HB.out⟩
end Go.Proofs.Ytdhcdogmbclhaaa.planes
