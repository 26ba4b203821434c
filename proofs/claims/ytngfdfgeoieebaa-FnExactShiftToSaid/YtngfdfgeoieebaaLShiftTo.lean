/- FnExactShiftTo: for all arguments, valid or not, the law returns true and its arguments read as before. No condition. -/
import Derived.Test.YtngfdfgeoieebaaRows
import Derived.Test.YtngfdfgeoieebaaMg
import Derived.Test.YtngfdfgeoieebaaRm
import Derived.Test.YtngfdfgeoieebaaMr
import Derived.Test.YtngfdfgeoieebaaMs
namespace Go.Proofs.Ytngfdfgeoieebaa.lawShiftTo
open Go.ChangeShapes Go.WideShapes Go.ChangeAt Go.RowKit
open Go.ChangeMaps (open_string shut_string)
open cards maps reg
set_option linter.unusedVariables false

set_option maxRecDepth 100000 in
set_option maxHeartbeats 4000000 in
theorem walk (c0 : Cd) (c1 : Cd) (w : World) :
    Calls Try.prog 8 #[c0.val, c1.val] w fun e w' => e = .returned (.bool true) ∧ Below w.heap.size w w' := by
  obtain ⟨r, hr⟩ : ∃ r, shR c0 c1 = r := ⟨_, rfl⟩
  have HS := fun w => spec_sh c0 c1 w
  have HI := fun w => impl_sh c0 c1 w
  rw [hr] at HS HI
  clear hr
  obtain ⟨x, b⟩ := r
  have HS := Lib.hid HS
  have HI := Lib.hid HI
  dsimp only at HS HI
  have K0 : Hid (Box ((w.alloc (c0.obj)).alloc (c1.obj)) (w.heap.size) c0) := Lib.hid ((Box.newAt rfl rfl).alloc _)
  have K1 : Hid (Box ((w.alloc (c0.obj)).alloc (c1.obj)) (w.heap.size + 1) c1) := Lib.hid (Box.newAt (by simp) rfl)
  have HB : Hid (Below w.heap.size w ((w.alloc (c0.obj)).alloc (c1.obj))) := Lib.hid (Below.alloc (Below.alloc (Below.refl _ _) (Nat.le_refl _) _) (by simp) _)
  go_enter Try.func8, Try.ntmps8
  go_upto_region 1 with fail
  generalize (w.alloc (c0.obj)).alloc (c1.obj) = W at *
  refine region_map [(true, 0), (true, 2), (false, 1), (false, 3), (false, 4), (true, 5), (true, 6), (true, 7)] 8 9 5 [(10, 6, 16)] _ _ 15 (by kernel_rfl) rfl rfl (by kernel_rfl) rfl rfl rfl rfl rfl rfl rfl rfl (by decide) (of_decide_eq_true rfl) ?_
  refine chain_load 10 rfl rfl rfl 22 _ rfl rfl #[.int .i64 c0.a, .int .i64 c0.b, .int .i64 c0.c, .int .i64 c0.d] (fun w h => Box.below K0.out h) Try.underlying22 rfl (by kernel_rfl) ?_
  refine chain_load 12 rfl rfl rfl 22 _ rfl rfl #[.int .i64 c1.a, .int .i64 c1.b, .int .i64 c1.c, .int .i64 c1.d] (fun w h => Box.below K1.out h) Try.underlying22 rfl (by kernel_rfl) ?_
  refine chain_call 11 rfl rfl rfl (fun w => by kernel_rfl) (fun w h => to_a4 c0 w) ?_
  refine chain_call 13 rfl rfl rfl (fun w => by kernel_rfl) (fun w h => to_a4 c1 w) ?_
  refine chain_call 14 rfl rfl rfl (fun w => by kernel_rfl) (fun w h => HS.out w) ?_
  refine chain_pure 9 (v := .tuple #[x.val, .bool b]) rfl rfl rfl (fun w => by kernel_rfl) ?_
  refine chain_pure 15 (v := x.val) rfl rfl rfl (fun w => by kernel_rfl) ?_
  refine chain_pure 16 (v := .bool b) rfl rfl rfl (fun w => by kernel_rfl) ?_
  intro wz g1 hI hg hb
  refine ⟨by kernel_rfl, x, by kernel_rfl, ?_⟩
  intro w1 R1 b2
  refine ⟨_, ⟨.bool b, by kernel_rfl, rfl⟩, ?_⟩
  simp only [Act.put, List.setIfInBounds_toArray, List.set_cons_zero, List.set_cons_succ]
  have K0 := Lib.hid (Box.below K0.out b2)
  have K1 := Lib.hid (Box.below K1.out b2)
  have HB : Hid (Below w.heap.size w w1) := Lib.hid (chain0 HB.out b2)
  clear b2 hI hg hb
  unfold ptr
  go_upto_region 2 with fail
  refine region_map [(true, 0), (true, 2), (false, 1), (false, 3), (false, 4), (true, 5), (true, 6), (true, 7)] 8 9 7 [(10, 8, 24)] _ _ 23 (by kernel_rfl) rfl rfl (by kernel_rfl) rfl rfl rfl rfl rfl rfl rfl rfl (by decide) (of_decide_eq_true rfl) ?_
  refine chain_load 18 rfl rfl rfl 22 _ rfl rfl #[.int .i64 c0.a, .int .i64 c0.b, .int .i64 c0.c, .int .i64 c0.d] (fun w h => Box.below K0.out h) Try.underlying22 rfl (by kernel_rfl) ?_
  refine chain_load 20 rfl rfl rfl 22 _ rfl rfl #[.int .i64 c1.a, .int .i64 c1.b, .int .i64 c1.c, .int .i64 c1.d] (fun w h => Box.below K1.out h) Try.underlying22 rfl (by kernel_rfl) ?_
  refine chain_call 19 rfl rfl rfl (fun w => by kernel_rfl) (fun w h => to_a4 c0 w) ?_
  refine chain_call 21 rfl rfl rfl (fun w => by kernel_rfl) (fun w h => to_a4 c1 w) ?_
  refine chain_call 22 rfl rfl rfl (fun w => by kernel_rfl) (fun w h => HI.out w) ?_
  refine chain_pure 17 (v := .tuple #[x.val, .bool b]) rfl rfl rfl (fun w => by kernel_rfl) ?_
  refine chain_pure 23 (v := x.val) rfl rfl rfl (fun w => by kernel_rfl) ?_
  refine chain_pure 24 (v := .bool b) rfl rfl rfl (fun w => by kernel_rfl) ?_
  intro wz g2 hI hg hb
  refine ⟨by kernel_rfl, x, by kernel_rfl, ?_⟩
  intro w2 R2 b2
  refine ⟨_, ⟨.bool b, by kernel_rfl, rfl⟩, ?_⟩
  simp only [Act.put, List.setIfInBounds_toArray, List.set_cons_zero, List.set_cons_succ]
  have K0 := Lib.hid (Box.below K0.out b2)
  have K1 := Lib.hid (Box.below K1.out b2)
  have R1 := Lib.hid (MBox.below R1.out b2)
  have HB : Hid (Below w.heap.size w w2) := Lib.hid (chain0 HB.out b2)
  clear b2 hI hg hb
  unfold ptr
  go_wp2_with (first | ((with_reducible refine take_map rfl _ rfl R1.out ?_ ?_); rfl) | ((with_reducible refine take_map rfl _ rfl R2.out ?_ ?_); rfl))
  refine (eq_map x _).mono ?_
  rintro e w5 ⟨rfl, b⟩
  have HB := Lib.hid (chain0 HB.out b)
  clear b
  go_wp2_with fail
  go_ret
  exact ⟨rfl, by repeat (first | with_reducible exact Below.refl _ _ | with_reducible exact HB.out | with_reducible apply Below.drew | with_reducible apply bdN | with_reducible refine Below.alloc ?_ (by first | exact Nat.le_refl _ | with_reducible exact HB.out.size | omega | (simp; done) | (simp; omega) | (have := HB.out.size; simp at *; omega)) _ | with_reducible refine Below.setCell ?_ (by first | exact Nat.le_refl _ | with_reducible exact HB.out.size | omega | (simp; done) | (simp; omega) | (have := HB.out.size; simp at *; omega)) _)⟩

theorem own : ownKnob Try.prog.godebug = none := by kernel_rfl
theorem laidOut : laidOutB Try.prog = true := by kernel_rfl
set_option maxRecDepth 100000 in
set_option maxHeartbeats 1000000 in
theorem lifted (os : Os) (started : os.Started) (H : Type) (enc : TypeId × Value → H) :
    ReturnsInHanded {} Try.checked os 8 .any (Rows.fnExactShiftToSpec.pre6 enc Try.prog Try.f8 Rows.fnExactShiftToRow.domain false) (Rows.fnExactShiftToSpec.post enc Try.prog Try.f8 false true false false) := by
  refine returnsInHanded_of_change (C := Try.checked) own started (by kernel_rfl) Try.func8
    (ChangeSpec.witness6 (enc := enc) (C := Try.checked) false ⟨#[], #[.agg #[.int .i64 0, .int .i64 0, .int .i64 0, .int .i64 0], .agg #[.int .i64 0, .int .i64 0, .int .i64 0, .int .i64 0]], []⟩ 8 (by kernel_rfl) (by kernel_rfl) (by kernel_rfl) (by kernel_rfl)) ?_
  intro W base args ds gs before hval0 hW hcnd _
  have hval : ∀ (j : Nat) t v, Try.f8.params[j]? = some t → args[j]? = some v → Value.okWide Try.prog W .any base t v := hval0
  have hW' := hW
  obtain ⟨p, q, hA0, hV, rfl, hfz, hnd⟩ := hW
  have hA : DataW.TrodAll enc Try.prog W 0 (fun _ => true) true Try.f8.params.toList args.toList ds p := hA0
  rw [Try.params8] at hA hval
  have hR := fun (W' : World) (hb : Below W.heap.size W W') => frame.still_all laidOut hb _ _ _ _ (by decide +kernel) hA
  obtain ⟨v0, vs0, d0, ds0, p0, q0, hargs, rfl, hp, h0, r0⟩ := trodAll_cons hA
  obtain ⟨v1, vs1, d1, ds1, p1, q1, rfl, rfl, hp1, h1, r1⟩ := trodAll_cons r0
  obtain ⟨rfl, rfl, hpn⟩ := trodAll_nil r1
  obtain rfl : args = #[v0, v1] := by cases args; simp_all
  obtain ⟨rfl, rfl⟩ := trodVars_none hV
  obtain ⟨a0, rfl⟩ := frame.open_a4 Try.underlying22 Try.underlying3 (by kernel_rfl) (by kernel_rfl) (hval 0 22 v0 rfl rfl) h0
  obtain ⟨a1, rfl⟩ := frame.open_a4 Try.underlying22 Try.underlying3 (by kernel_rfl) (by kernel_rfl) (hval 1 22 v1 rfl rfl) h1
  clear hA0 hval0
  simp only [List.append_nil] at hW'
  refine (walk a0 a1 W ).mono fun e W' ⟨he, hw⟩ => ?_
  subst he
  exact ⟨_, rfl, _, _, _, [], p, [], hW', trodAll_mk1 (shut_bool Try.underlying4 _), hR W' hw, rfl, hw.frame _, fun h => by cases h⟩

theorem over : Rows.fnExactShiftToRow.holds Try.pinned (OpenSpec.ofChange Rows.fnExactShiftToSpec) :=
  OpenClaim.holds_of_wide 8 Try.f8 rfl rfl rfl rfl rfl rfl rfl ⟨rfl, rfl, rfl, rfl, rfl⟩ rfl rfl rfl rfl rfl (by kernel_rfl) Try.func8 (by kernel_rfl)
    (of_decide_eq_true (by kernel_rfl)) (by unfold Func.isWrapper; first | (rw [if_pos (by decide +kernel)]; kernel_rfl) | (rw [if_neg (by decide +kernel)]; exact ⟨rfl, rfl⟩))
    (fun os started H enc _ => lifted os started H enc)

theorem proved : Rows.FnExactShiftToSaid := over
end Go.Proofs.Ytngfdfgeoieebaa.lawShiftTo