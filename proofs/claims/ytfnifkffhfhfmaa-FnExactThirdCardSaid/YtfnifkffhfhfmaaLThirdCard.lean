/- FnExactThirdCard: for every two cards, valid or not, the law returns true and its arguments read as before. No condition. -/
import Derived.Test.YtfnifkffhfhfmaaRows
import Derived.Test.YtfnifkffhfhfmaaFr
import Derived.Test.YtfnifkffhfhfmaaC2
import Derived.Deep.RegionHeld3
import Derived.Deep.DeepCutAuto
namespace Go.Proofs.Ytfnifkffhfhfmaa.lawThirdCard
open Go.ChangeShapes Go.WideShapes Go.ChangeAt Go.RowKit
open Go.ChangeMaps (open_string shut_string)
open cards
set_option linter.unusedVariables false

set_option maxRecDepth 100000 in
set_option maxHeartbeats 4000000 in
theorem walk (x y : Cd) (w : World) :
    Calls Try.prog 10 #[x.val, y.val] w fun e w' => e = .returned (.bool true) ∧ Below w.heap.size w w' := by
  go_enter Try.func10, Try.ntmps10
  go_upto_region 1 with fail
  obtain ⟨w1, ew, b⟩ : ∃ w1 : World, w1 = ((w.alloc x.obj).alloc y.obj) ∧ Below (((w.alloc x.obj).alloc y.obj)).heap.size (((w.alloc x.obj).alloc y.obj)) w1 := ⟨_, rfl, Below.refl _ _⟩
  rw [← ew]
  clear ew
  have Sw1 := Lib.hid b.size
  have HB := Lib.hid (chain0 (w := w) (by repeat (first | with_reducible exact Below.refl _ _ | with_reducible exact HB.out | with_reducible apply Below.drew | with_reducible apply bdN | with_reducible refine Below.alloc ?_ (by first | exact Nat.le_refl _ | (simp; done) | (simp; omega) | (have := HB.out.size; simp at *; omega)) _ | with_reducible refine Below.setCell ?_ (by first | exact Nat.le_refl _ | (simp; done) | (simp; omega) | (have := HB.out.size; simp at *; omega)) _)) b)
  have K0 : Hid (Box _ (w.heap.size) (x)) := Lib.hid (Box.below (by repeat (first | with_reducible exact K0.out | with_reducible apply Box.drewN | with_reducible apply Box.drew | (with_reducible refine Box.newAt ?_ ?_ <;> first | (simp; done) | rfl) | with_reducible apply Box.alloc)) b)
  have K1 : Hid (Box _ (w.heap.size + 1) (y)) := Lib.hid (Box.below (by repeat (first | with_reducible exact K1.out | with_reducible apply Box.drewN | with_reducible apply Box.drew | (with_reducible refine Box.newAt ?_ ?_ <;> first | (simp; done) | rfl) | with_reducible apply Box.alloc)) b)
  try clear k0a k0b k0c k0d k0z
  have k0z := K0.out.lt
  obtain ⟨k0a, k0b, k0c, k0d⟩ := K0.out.cell
  try clear k1a k1b k1c k1d k1z
  have k1z := K1.out.lt
  obtain ⟨k1a, k1b, k1c, k1d⟩ := K1.out.cell
  clear b
  go_cut [5, 6] (fun s5 s6 wx => ∃ g : Nat, s5 = .pointer (some ⟨g, 0, none⟩) ∧ s6 = .bool (thirdR x y).2 ∧ Hid (Box wx g (thirdR x y).1) ∧ Hid (Below w.heap.size w wx) ∧ Hid (Box wx w.heap.size x) ∧ Hid (Box wx (w.heap.size + 1) y))
  case first =>
    go_region_held3 (fun w' => w'.cell? ⟨w.heap.size, 0, none⟩ = some (.int .i64 ((x)).a) ∧ w'.cell? ⟨w.heap.size, 1, none⟩ = some (.int .i64 ((x)).b) ∧ w'.cell? ⟨w.heap.size, 2, none⟩ = some (.int .i64 ((x)).c) ∧ w'.cell? ⟨w.heap.size, 3, none⟩ = some (.int .i64 ((x)).d) ∧ w'.cell? ⟨w.heap.size + 1, 0, none⟩ = some (.int .i64 ((y)).a) ∧ w'.cell? ⟨w.heap.size + 1, 1, none⟩ = some (.int .i64 ((y)).b) ∧ w'.cell? ⟨w.heap.size + 1, 2, none⟩ = some (.int .i64 ((y)).c) ∧ w'.cell? ⟨w.heap.size + 1, 3, none⟩ = some (.int .i64 ((y)).d)) (first | exact ⟨k0a, k0b, k0c, k0d, k1a, k1b, k1c, k1d⟩ | go_keep)
      (first | (go_at_call 73; refine (to_a4 _ _).mono ?_; rintro e wq ⟨rfl, b⟩; have k0n := Nat.ne_of_lt k0z; have k0m := Nat.ne_of_gt k0z; have k1n := Nat.ne_of_lt k1z; have k1m := Nat.ne_of_gt k1z; have HB := Lib.hid (chain0 (w := w) (by repeat (first | with_reducible exact Below.refl _ _ | with_reducible exact HB.out | with_reducible apply Below.drew | with_reducible apply bdN | with_reducible refine Below.alloc ?_ (by first | exact Nat.le_refl _ | (simp; done) | (simp; omega) | (have := HB.out.size; simp at *; omega)) _ | with_reducible refine Below.setCell ?_ (by first | exact Nat.le_refl _ | (simp; done) | (simp; omega) | (have := HB.out.size; simp at *; omega)) _)) b); have K0 : Hid (Box _ (w.heap.size) (x)) := Lib.hid (Box.below (by repeat (first | with_reducible exact K0.out | with_reducible apply Box.drewN | with_reducible apply Box.drew | (with_reducible refine Box.newAt ?_ ?_ <;> first | (simp; done) | rfl) | with_reducible apply Box.alloc)) b); have K1 : Hid (Box _ (w.heap.size + 1) (y)) := Lib.hid (Box.below (by repeat (first | with_reducible exact K1.out | with_reducible apply Box.drewN | with_reducible apply Box.drew | (with_reducible refine Box.newAt ?_ ?_ <;> first | (simp; done) | rfl) | with_reducible apply Box.alloc)) b); obtain ⟨k0a, k0b, k0c, k0d⟩ := K0.out.cell; have k0z := K0.out.lt; obtain ⟨k1a, k1b, k1c, k1d⟩ := K1.out.cell; have k1z := K1.out.lt; (first | (have KZ := Lib.hid (Box.below KZ.out b); have kzf := KZ.out.frozen; obtain ⟨kza, kzb, kzc, kzd⟩ := KZ.out.cell; have kzz := KZ.out.lt) | (have KZ := Lib.hid (Box.below (Box.new _ zero) b); have kzf := KZ.out.frozen; obtain ⟨kza, kzb, kzc, kzd⟩ := KZ.out.cell; have kzz := KZ.out.lt) | (have KZ := Lib.hid (Box.below (Box.newD _ zero) b); have kzf := KZ.out.frozen; obtain ⟨kza, kzb, kzc, kzd⟩ := KZ.out.cell; have kzz := KZ.out.lt) | skip); clear b) | (go_at_call 26; refine (spec_third x y _).mono ?_; rintro e wq ⟨rfl, b⟩; have k0n := Nat.ne_of_lt k0z; have k0m := Nat.ne_of_gt k0z; have k1n := Nat.ne_of_lt k1z; have k1m := Nat.ne_of_gt k1z; have HB := Lib.hid (chain0 (w := w) (by repeat (first | with_reducible exact Below.refl _ _ | with_reducible exact HB.out | with_reducible apply Below.drew | with_reducible apply bdN | with_reducible refine Below.alloc ?_ (by first | exact Nat.le_refl _ | (simp; done) | (simp; omega) | (have := HB.out.size; simp at *; omega)) _ | with_reducible refine Below.setCell ?_ (by first | exact Nat.le_refl _ | (simp; done) | (simp; omega) | (have := HB.out.size; simp at *; omega)) _)) b); have K0 : Hid (Box _ (w.heap.size) (x)) := Lib.hid (Box.below (by repeat (first | with_reducible exact K0.out | with_reducible apply Box.drewN | with_reducible apply Box.drew | (with_reducible refine Box.newAt ?_ ?_ <;> first | (simp; done) | rfl) | with_reducible apply Box.alloc)) b); have K1 : Hid (Box _ (w.heap.size + 1) (y)) := Lib.hid (Box.below (by repeat (first | with_reducible exact K1.out | with_reducible apply Box.drewN | with_reducible apply Box.drew | (with_reducible refine Box.newAt ?_ ?_ <;> first | (simp; done) | rfl) | with_reducible apply Box.alloc)) b); obtain ⟨k0a, k0b, k0c, k0d⟩ := K0.out.cell; have k0z := K0.out.lt; obtain ⟨k1a, k1b, k1c, k1d⟩ := K1.out.cell; have k1z := K1.out.lt; (first | (have KZ := Lib.hid (Box.below KZ.out b); have kzf := KZ.out.frozen; obtain ⟨kza, kzb, kzc, kzd⟩ := KZ.out.cell; have kzz := KZ.out.lt) | (have KZ := Lib.hid (Box.below (Box.new _ zero) b); have kzf := KZ.out.frozen; obtain ⟨kza, kzb, kzc, kzd⟩ := KZ.out.cell; have kzz := KZ.out.lt) | (have KZ := Lib.hid (Box.below (Box.newD _ zero) b); have kzf := KZ.out.frozen; obtain ⟨kza, kzb, kzc, kzd⟩ := KZ.out.cell; have kzz := KZ.out.lt) | skip); clear b))
    all_goals
      go_wp2_with fail
      go_meet
      case rel =>
        refine ⟨_, rfl, rfl, ?_, ?_, ?_, ?_⟩
        · exact Lib.hid (by repeat (first | with_reducible exact KZ.out | with_reducible apply Box.drewN | with_reducible apply Box.drew | (with_reducible refine Box.newAt ?_ ?_ <;> first | rfl | (simp; done)) | exact Box.set_ KZ.out _))
        · have hz1 := HB.out.size
          exact Lib.hid (by repeat (first | with_reducible exact Below.refl _ _ | with_reducible exact HB.out | with_reducible apply Below.drew | with_reducible apply bdN | with_reducible refine Below.alloc ?_ (by first | exact Nat.le_refl _ | (simp; done) | (simp; omega) | (have := HB.out.size; simp at *; omega)) _ | with_reducible refine Below.setCell ?_ (by first | exact Nat.le_refl _ | (simp; done) | (simp; omega) | (have := HB.out.size; simp at *; omega)) _))
        · exact Lib.hid (by repeat (first | with_reducible exact K0.out | with_reducible apply Box.drewN | with_reducible apply Box.drew | with_reducible refine Box.far ?_ (by simp only; omega) _ | with_reducible apply Box.alloc))
        · exact Lib.hid (by repeat (first | with_reducible exact K1.out | with_reducible apply Box.drewN | with_reducible apply Box.drew | with_reducible refine Box.far ?_ (by simp only; omega) _ | with_reducible apply Box.alloc))
  case rest =>
    clear HB K0 K1 k0a k0b k0c k0d k1a k1b k1c k1d k0z k1z
    obtain ⟨g, rfl, rfl, KT, HB, K0, K1⟩ := hcut
    obtain ⟨k0a, k0b, k0c, k0d⟩ := K0.out.cell
    obtain ⟨k1a, k1b, k1c, k1d⟩ := K1.out.cell
    obtain ⟨kta, ktb, ktc, ktd⟩ := KT.out.cell
    have k0z := K0.out.lt
    have k1z := K1.out.lt
    have ktz := KT.out.lt
    go_upto_region 2 with fail
    go_cut [7, 8] (fun s7 s8 wx => ∃ g2 : Nat, s7 = .pointer (some ⟨g2, 0, none⟩) ∧ s8 = .bool (thirdR x y).2 ∧ Hid (Box wx g2 (thirdR x y).1) ∧ Hid (Below w.heap.size w wx) ∧ Hid (Box wx g (thirdR x y).1))
    case first =>
      go_region_held3 (fun w' => w'.cell? ⟨w.heap.size, 0, none⟩ = some (.int .i64 ((x)).a) ∧ w'.cell? ⟨w.heap.size, 1, none⟩ = some (.int .i64 ((x)).b) ∧ w'.cell? ⟨w.heap.size, 2, none⟩ = some (.int .i64 ((x)).c) ∧ w'.cell? ⟨w.heap.size, 3, none⟩ = some (.int .i64 ((x)).d) ∧ w'.cell? ⟨w.heap.size + 1, 0, none⟩ = some (.int .i64 ((y)).a) ∧ w'.cell? ⟨w.heap.size + 1, 1, none⟩ = some (.int .i64 ((y)).b) ∧ w'.cell? ⟨w.heap.size + 1, 2, none⟩ = some (.int .i64 ((y)).c) ∧ w'.cell? ⟨w.heap.size + 1, 3, none⟩ = some (.int .i64 ((y)).d) ∧ w'.cell? ⟨g, 0, none⟩ = some (.int .i64 (((thirdR x y).1)).a) ∧ w'.cell? ⟨g, 1, none⟩ = some (.int .i64 (((thirdR x y).1)).b) ∧ w'.cell? ⟨g, 2, none⟩ = some (.int .i64 (((thirdR x y).1)).c) ∧ w'.cell? ⟨g, 3, none⟩ = some (.int .i64 (((thirdR x y).1)).d)) (first | exact ⟨k0a, k0b, k0c, k0d, k1a, k1b, k1c, k1d, kta, ktb, ktc, ktd⟩ | go_keep)
        (first | (go_at_call 73; refine (to_a4 _ _).mono ?_; rintro e wq ⟨rfl, b⟩; have k0n := Nat.ne_of_lt k0z; have k0m := Nat.ne_of_gt k0z; have k1n := Nat.ne_of_lt k1z; have k1m := Nat.ne_of_gt k1z; have ktn := Nat.ne_of_lt ktz; have ktm := Nat.ne_of_gt ktz; have HB := Lib.hid (chain0 (w := w) (by repeat (first | with_reducible exact Below.refl _ _ | with_reducible exact HB.out | with_reducible apply Below.drew | with_reducible apply bdN | with_reducible refine Below.alloc ?_ (by first | exact Nat.le_refl _ | (simp; done) | (simp; omega) | (have := HB.out.size; simp at *; omega)) _ | with_reducible refine Below.setCell ?_ (by first | exact Nat.le_refl _ | (simp; done) | (simp; omega) | (have := HB.out.size; simp at *; omega)) _)) b); have K0 : Hid (Box _ (w.heap.size) (x)) := Lib.hid (Box.below (by repeat (first | with_reducible exact K0.out | with_reducible apply Box.drewN | with_reducible apply Box.drew | (with_reducible refine Box.newAt ?_ ?_ <;> first | (simp; done) | rfl) | with_reducible apply Box.alloc)) b); have K1 : Hid (Box _ (w.heap.size + 1) (y)) := Lib.hid (Box.below (by repeat (first | with_reducible exact K1.out | with_reducible apply Box.drewN | with_reducible apply Box.drew | (with_reducible refine Box.newAt ?_ ?_ <;> first | (simp; done) | rfl) | with_reducible apply Box.alloc)) b); have KT : Hid (Box _ (g) ((thirdR x y).1)) := Lib.hid (Box.below (by repeat (first | with_reducible exact KT.out | with_reducible apply Box.drewN | with_reducible apply Box.drew | (with_reducible refine Box.newAt ?_ ?_ <;> first | (simp; done) | rfl) | with_reducible apply Box.alloc)) b); obtain ⟨k0a, k0b, k0c, k0d⟩ := K0.out.cell; have k0z := K0.out.lt; obtain ⟨k1a, k1b, k1c, k1d⟩ := K1.out.cell; have k1z := K1.out.lt; obtain ⟨kta, ktb, ktc, ktd⟩ := KT.out.cell; have ktz := KT.out.lt; (first | (have KZ := Lib.hid (Box.below KZ.out b); have kzf := KZ.out.frozen; obtain ⟨kza, kzb, kzc, kzd⟩ := KZ.out.cell; have kzz := KZ.out.lt) | (have KZ := Lib.hid (Box.below (Box.new _ zero) b); have kzf := KZ.out.frozen; obtain ⟨kza, kzb, kzc, kzd⟩ := KZ.out.cell; have kzz := KZ.out.lt) | (have KZ := Lib.hid (Box.below (Box.newD _ zero) b); have kzf := KZ.out.frozen; obtain ⟨kza, kzb, kzc, kzd⟩ := KZ.out.cell; have kzz := KZ.out.lt) | skip); clear b) | (go_at_call 25; refine (impl_third x y _).mono ?_; rintro e wq ⟨rfl, b⟩; have k0n := Nat.ne_of_lt k0z; have k0m := Nat.ne_of_gt k0z; have k1n := Nat.ne_of_lt k1z; have k1m := Nat.ne_of_gt k1z; have ktn := Nat.ne_of_lt ktz; have ktm := Nat.ne_of_gt ktz; have HB := Lib.hid (chain0 (w := w) (by repeat (first | with_reducible exact Below.refl _ _ | with_reducible exact HB.out | with_reducible apply Below.drew | with_reducible apply bdN | with_reducible refine Below.alloc ?_ (by first | exact Nat.le_refl _ | (simp; done) | (simp; omega) | (have := HB.out.size; simp at *; omega)) _ | with_reducible refine Below.setCell ?_ (by first | exact Nat.le_refl _ | (simp; done) | (simp; omega) | (have := HB.out.size; simp at *; omega)) _)) b); have K0 : Hid (Box _ (w.heap.size) (x)) := Lib.hid (Box.below (by repeat (first | with_reducible exact K0.out | with_reducible apply Box.drewN | with_reducible apply Box.drew | (with_reducible refine Box.newAt ?_ ?_ <;> first | (simp; done) | rfl) | with_reducible apply Box.alloc)) b); have K1 : Hid (Box _ (w.heap.size + 1) (y)) := Lib.hid (Box.below (by repeat (first | with_reducible exact K1.out | with_reducible apply Box.drewN | with_reducible apply Box.drew | (with_reducible refine Box.newAt ?_ ?_ <;> first | (simp; done) | rfl) | with_reducible apply Box.alloc)) b); have KT : Hid (Box _ (g) ((thirdR x y).1)) := Lib.hid (Box.below (by repeat (first | with_reducible exact KT.out | with_reducible apply Box.drewN | with_reducible apply Box.drew | (with_reducible refine Box.newAt ?_ ?_ <;> first | (simp; done) | rfl) | with_reducible apply Box.alloc)) b); obtain ⟨k0a, k0b, k0c, k0d⟩ := K0.out.cell; have k0z := K0.out.lt; obtain ⟨k1a, k1b, k1c, k1d⟩ := K1.out.cell; have k1z := K1.out.lt; obtain ⟨kta, ktb, ktc, ktd⟩ := KT.out.cell; have ktz := KT.out.lt; (first | (have KZ := Lib.hid (Box.below KZ.out b); have kzf := KZ.out.frozen; obtain ⟨kza, kzb, kzc, kzd⟩ := KZ.out.cell; have kzz := KZ.out.lt) | (have KZ := Lib.hid (Box.below (Box.new _ zero) b); have kzf := KZ.out.frozen; obtain ⟨kza, kzb, kzc, kzd⟩ := KZ.out.cell; have kzz := KZ.out.lt) | (have KZ := Lib.hid (Box.below (Box.newD _ zero) b); have kzf := KZ.out.frozen; obtain ⟨kza, kzb, kzc, kzd⟩ := KZ.out.cell; have kzz := KZ.out.lt) | skip); clear b))
      all_goals
        go_wp2_with fail
        go_meet
        case rel =>
          refine ⟨_, rfl, rfl, ?_, ?_, ?_⟩
          · exact Lib.hid (by repeat (first | with_reducible exact KZ.out | with_reducible apply Box.drewN | with_reducible apply Box.drew | (with_reducible refine Box.newAt ?_ ?_ <;> first | rfl | (simp; done)) | exact Box.set_ KZ.out _))
          · have hz1 := HB.out.size
            exact Lib.hid (by repeat (first | with_reducible exact Below.refl _ _ | with_reducible exact HB.out | with_reducible apply Below.drew | with_reducible apply bdN | with_reducible refine Below.alloc ?_ (by first | exact Nat.le_refl _ | (simp; done) | (simp; omega) | (have := HB.out.size; simp at *; omega)) _ | with_reducible refine Below.setCell ?_ (by first | exact Nat.le_refl _ | (simp; done) | (simp; omega) | (have := HB.out.size; simp at *; omega)) _))
          · exact Lib.hid (by repeat (first | with_reducible exact KT.out | with_reducible apply Box.drewN | with_reducible apply Box.drew | with_reducible refine Box.far ?_ (by simp only; omega) _ | with_reducible apply Box.alloc))
    case rest =>
      clear HB K0 K1 KT k0a k0b k0c k0d k1a k1b k1c k1d kta ktb ktc ktd k0z k1z ktz
      obtain ⟨g2, rfl, rfl, KU, HB, KT⟩ := hcut
      obtain ⟨kta, ktb, ktc, ktd⟩ := KT.out.cell
      obtain ⟨kua, kub, kuc, kud⟩ := KU.out.cell
      have hs := same_iff.2 (rfl : (thirdR x y).1 = (thirdR x y).1)
      go_wp2_with fail
      refine ((eq_a4 (thirdR x y).1 (thirdR x y).1 _)).mono ?_
      rintro e w5 ⟨rfl, b⟩
      have Sw5 := Lib.hid b.size
      have HB := Lib.hid (chain0 (w := w) (by repeat (first | with_reducible exact Below.refl _ _ | with_reducible exact HB.out | with_reducible apply Below.drew | with_reducible apply bdN | with_reducible refine Below.alloc ?_ (by first | exact Nat.le_refl _ | (simp; done) | (simp; omega) | (have := HB.out.size; simp at *; omega)) _ | with_reducible refine Below.setCell ?_ (by first | exact Nat.le_refl _ | (simp; done) | (simp; omega) | (have := HB.out.size; simp at *; omega)) _)) b)
      clear b
      go_wp2_with fail
      go_ret
      exact ⟨rfl, by repeat (first | with_reducible exact Below.refl _ _ | with_reducible exact HB.out | with_reducible apply Below.drew | with_reducible apply bdN | with_reducible refine Below.alloc ?_ (by first | exact Nat.le_refl _ | (simp; done) | (simp; omega) | (have := HB.out.size; simp at *; omega)) _ | with_reducible refine Below.setCell ?_ (by first | exact Nat.le_refl _ | (simp; done) | (simp; omega) | (have := HB.out.size; simp at *; omega)) _)⟩

theorem own : ownKnob Try.prog.godebug = none := by kernel_rfl
theorem laidOut : laidOutB Try.prog = true := by kernel_rfl
set_option maxRecDepth 100000 in
set_option maxHeartbeats 1000000 in
theorem lifted (os : Os) (started : os.Started) (H : Type) (enc : TypeId × Value → H) :
    ReturnsInHanded {} Try.checked os 10 .any (Rows.fnExactThirdCardSpec.pre6 enc Try.prog Try.f10 Rows.fnExactThirdCardRow.domain false) (Rows.fnExactThirdCardSpec.post enc Try.prog Try.f10 false true false false) := by
  refine returnsInHanded_of_change (C := Try.checked) own started (by kernel_rfl) Try.func10
    (ChangeSpec.witness6 (enc := enc) (C := Try.checked) false ⟨#[], #[.agg #[.int .i64 0, .int .i64 0, .int .i64 0, .int .i64 0], .agg #[.int .i64 0, .int .i64 0, .int .i64 0, .int .i64 0]], []⟩ 8 (by kernel_rfl) (by kernel_rfl) (by kernel_rfl) (by kernel_rfl)) ?_
  intro W base args ds gs before hval0 hW hcnd _
  have hval : ∀ (j : Nat) t v, Try.f10.params[j]? = some t → args[j]? = some v → Value.okWide Try.prog W .any base t v := hval0
  have hW' := hW
  obtain ⟨p, q, hA0, hV, rfl, hfz, hnd⟩ := hW
  have hA : DataW.TrodAll enc Try.prog W 0 (fun _ => true) true Try.f10.params.toList args.toList ds p := hA0
  rw [Try.params10] at hA hval
  have hR := fun (W' : World) (hb : Below W.heap.size W W') => frame.still_all laidOut hb _ _ _ _ (by decide +kernel) hA
  obtain ⟨v0, vs0, d0, ds0, p0, q0, hargs, rfl, hp, h0, r0⟩ := trodAll_cons hA
  obtain ⟨v1, vs1, d1, ds1, p1, q1, rfl, rfl, hp1, h1, r1⟩ := trodAll_cons r0
  obtain ⟨rfl, rfl, hpn⟩ := trodAll_nil r1
  obtain rfl : args = #[v0, v1] := by cases args; simp_all
  obtain ⟨rfl, rfl⟩ := trodVars_none hV
  obtain ⟨a0, rfl⟩ := frame.open_a4 Try.underlying34 Try.underlying3 (by kernel_rfl) (by kernel_rfl) (hval 0 34 v0 rfl rfl) h0
  obtain ⟨a1, rfl⟩ := frame.open_a4 Try.underlying34 Try.underlying3 (by kernel_rfl) (by kernel_rfl) (hval 1 34 v1 rfl rfl) h1
  clear hA0 hval0
  simp only [List.append_nil] at hW'
  refine (walk a0 a1 W ).mono fun e W' ⟨he, hw⟩ => ?_
  subst he
  exact ⟨_, rfl, _, _, _, [], p, [], hW', trodAll_mk1 (shut_bool Try.underlying4 _), hR W' hw, rfl, hw.frame _, fun h => by cases h⟩

theorem over : Rows.fnExactThirdCardRow.holds Try.pinned (OpenSpec.ofChange Rows.fnExactThirdCardSpec) :=
  OpenClaim.holds_of_wide 10 Try.f10 rfl rfl rfl rfl rfl rfl rfl ⟨rfl, rfl, rfl, rfl, rfl⟩ rfl rfl rfl rfl rfl (by kernel_rfl) Try.func10 (by kernel_rfl)
    (of_decide_eq_true (by kernel_rfl)) (by unfold Func.isWrapper; first | (rw [if_pos (by decide +kernel)]; kernel_rfl) | (rw [if_neg (by decide +kernel)]; exact ⟨rfl, rfl⟩))
    (fun os started H enc _ => lifted os started H enc)

theorem proved : Rows.FnExactThirdCardSaid := over
end Go.Proofs.Ytfnifkffhfhfmaa.lawThirdCard