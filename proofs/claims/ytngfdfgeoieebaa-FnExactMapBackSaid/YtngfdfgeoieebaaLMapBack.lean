/- FnExactMapBack: for all arguments, valid or not, the law returns true and its arguments read as before. No condition. -/
import Derived.Test.YtngfdfgeoieebaaRows
import Derived.Test.YtngfdfgeoieebaaMg
import Derived.Test.YtngfdfgeoieebaaRm
import Derived.Test.YtngfdfgeoieebaaMo
import Derived.Test.YtngfdfgeoieebaaMq
namespace Go.Proofs.Ytngfdfgeoieebaa.lawMapBack
open Go.ChangeShapes Go.WideShapes Go.ChangeAt Go.RowKit
open Go.ChangeMaps (open_string shut_string)
open cards maps reg
set_option linter.unusedVariables false

set_option maxRecDepth 100000 in
set_option maxHeartbeats 4000000 in
theorem walk (m0 : Mp) (w : World) :
    Calls Try.prog 7 #[m0.val] w fun e w' => e = .returned (.bool true) ∧ Below w.heap.size w w' := by
  obtain ⟨r, hr⟩ : ∃ r, bkR m0 = r := ⟨_, rfl⟩
  have HS := fun w => spec_bk m0 w
  have HI := fun w => impl_bk m0 w
  rw [hr] at HS HI
  clear hr
  obtain ⟨x, b⟩ := r
  have HS := Lib.hid HS
  have HI := Lib.hid HI
  dsimp only at HS HI
  have K0 : Hid (MBox (w.alloc (Mv.obj ⟨26, m0⟩)) (w.heap.size) ⟨26, m0⟩) := Lib.hid (MBox.newAt rfl rfl)
  have HB : Hid (Below w.heap.size w (w.alloc (Mv.obj ⟨26, m0⟩))) := Lib.hid (Below.alloc (Below.refl _ _) (Nat.le_refl _) _)
  go_enter Try.func7, Try.ntmps7
  go_upto_region 1 with fail
  generalize w.alloc (Mv.obj ⟨26, m0⟩) = W at *
  go_wp2_with ((with_reducible refine take_mapL rfl _ rfl K0.out ?_ ?_); rfl)
  refine (to_map m0 _).mono ?_
  rintro e u1 ⟨rfl, q⟩
  have K0 := Lib.hid (MBox.below K0.out q)
  have HB : Hid (Below w.heap.size w u1) := Lib.hid (chain0 HB.out q)
  clear q
  go_wp2_with fail
  refine (HS.out _).mono ?_
  rintro e v1 ⟨rfl, q⟩
  have K0 := Lib.hid (MBox.below K0.out q)
  have HB : Hid (Below w.heap.size w v1) := Lib.hid (chain0 HB.out q)
  clear q
  have hz1 := HB.out.size
  have k0z := K0.out.lt
  have K0 := Lib.hid (MBox.alloc K0.out (Mv.obj ⟨28, zeroM⟩))
  have HB := Lib.hid (Below.alloc HB.out hz1 (Mv.obj ⟨28, zeroM⟩))
  go_upto_region 2 with ((with_reducible refine store_map rfl _ _ rfl (MBox.newAt (x := ⟨28, zeroM⟩) rfl rfl) ?_ x ?_ ?_); rfl; rfl; intro w1 hM hG)
  have K0 := Lib.hid (MBox.marked K0.out hG (fun k hk => by injection hk with hk; omega))
  have HB := Lib.hid (Below.grown HB.out hG HB.out.size (fun k hk => by injection hk with hk; omega))
  have R1 := Lib.hid hM
  clear hM hG k0z
  go_wp2_with ((with_reducible refine take_mapL rfl _ rfl K0.out ?_ ?_); rfl)
  refine (to_map m0 _).mono ?_
  rintro e u2 ⟨rfl, q⟩
  have K0 := Lib.hid (MBox.below K0.out q)
  have R1 := Lib.hid (MBox.below R1.out q)
  have HB : Hid (Below w.heap.size w u2) := Lib.hid (chain0 HB.out q)
  clear q
  go_wp2_with fail
  refine (HI.out _).mono ?_
  rintro e v2 ⟨rfl, q⟩
  have K0 := Lib.hid (MBox.below K0.out q)
  have R1 := Lib.hid (MBox.below R1.out q)
  have HB : Hid (Below w.heap.size w v2) := Lib.hid (chain0 HB.out q)
  clear q
  have hz2 := HB.out.size
  have k0z := K0.out.lt
  have r1z := R1.out.lt
  have K0 := Lib.hid (MBox.alloc K0.out (Mv.obj ⟨28, zeroM⟩))
  have R1 := Lib.hid (MBox.alloc R1.out (Mv.obj ⟨28, zeroM⟩))
  have HB := Lib.hid (Below.alloc HB.out hz2 (Mv.obj ⟨28, zeroM⟩))
  go_upto_region 3 with ((with_reducible refine store_map rfl _ _ rfl (MBox.newAt (x := ⟨28, zeroM⟩) rfl rfl) ?_ x ?_ ?_); rfl; rfl; intro w2 hM hG)
  have K0 := Lib.hid (MBox.marked K0.out hG (fun k hk => by injection hk with hk; omega))
  have R1 := Lib.hid (MBox.marked R1.out hG (fun k hk => by injection hk with hk; omega))
  have HB := Lib.hid (Below.grown HB.out hG HB.out.size (fun k hk => by injection hk with hk; omega))
  have R2 := Lib.hid hM
  clear hM hG k0z r1z
  go_wp2_with (first | ((with_reducible refine take_map rfl _ rfl R1.out ?_ ?_); rfl) | ((with_reducible refine take_map rfl _ rfl R2.out ?_ ?_); rfl))
  refine (eq_map x _).mono ?_
  rintro e w5 ⟨rfl, b⟩
  have HB := Lib.hid (chain0 HB.out b)
  clear b
  go_wp2_with fail
  go_ret
  exact ⟨rfl, by repeat (first | with_reducible exact Below.refl _ _ | with_reducible exact HB.out | with_reducible apply Below.drew | with_reducible apply bdN | with_reducible refine Below.alloc ?_ (by first | exact Nat.le_refl _ | with_reducible exact HB.out.size | omega | (simp; done) | (simp; omega) | (have := HB.out.size; simp at *; omega)) _ | with_reducible refine Below.setCell ?_ (by first | exact Nat.le_refl _ | with_reducible exact HB.out.size | omega | (simp; done) | (simp; omega) | (have := HB.out.size; simp at *; omega)) _)⟩

theorem own : ownKnob Try.prog.godebug = none := by kernel_rfl
theorem laidOut : laidOutB Try.prog = true := by kernel_rfl
set_option maxRecDepth 100000 in
set_option maxHeartbeats 1000000 in
theorem lifted (os : Os) (started : os.Started) (H : Type) (enc : TypeId × Value → H) :
    ReturnsInHanded {} Try.checked os 7 .any (Rows.fnExactMapBackSpec.pre6 enc Try.prog Try.f7 Rows.fnExactMapBackRow.domain false) (Rows.fnExactMapBackSpec.post enc Try.prog Try.f7 false true false false) := by
  refine returnsInHanded_of_change (C := Try.checked) own started (by kernel_rfl) Try.func7
    (ChangeSpec.witness6 (enc := enc) (C := Try.checked) false ⟨#[], #[.agg #[.int .i64 0, .int .i64 0, .int .i64 0, .int .i64 0, .int .i64 0, .int .i64 0, .int .i64 0, .int .i64 0, .int .i64 0, .int .i64 0, .int .i64 0, .int .i64 0, .int .i64 0, .int .i64 0, .int .i64 0, .int .i64 0]], []⟩ 8 (by kernel_rfl) (by kernel_rfl) (by kernel_rfl) (by kernel_rfl)) ?_
  intro W base args ds gs before hval0 hW hcnd _
  have hval : ∀ (j : Nat) t v, Try.f7.params[j]? = some t → args[j]? = some v → Value.okWide Try.prog W .any base t v := hval0
  have hW' := hW
  obtain ⟨p, q, hA0, hV, rfl, hfz, hnd⟩ := hW
  have hA : DataW.TrodAll enc Try.prog W 0 (fun _ => true) true Try.f7.params.toList args.toList ds p := hA0
  rw [Try.params7] at hA hval
  have hR := fun (W' : World) (hb : Below W.heap.size W W') => frame.still_all laidOut hb _ _ _ _ (by decide +kernel) hA
  obtain ⟨v0, vs0, d0, ds0, p0, q0, hargs, rfl, hp, h0, r0⟩ := trodAll_cons hA
  obtain ⟨rfl, rfl, hpn⟩ := trodAll_nil r0
  obtain rfl : args = #[v0] := by cases args; simp_all
  obtain ⟨rfl, rfl⟩ := trodVars_none hV
  obtain ⟨a0, rfl⟩ := frame.open_map Try.underlying26 rfl rfl rfl rfl Try.underlying22 Try.underlying24 Try.underlying23 Try.underlying3 (by kernel_rfl) (by kernel_rfl) (by kernel_rfl) (by kernel_rfl) (by kernel_rfl) (hval 0 26 v0 rfl rfl) h0
  clear hA0 hval0
  simp only [List.append_nil] at hW'
  refine (walk a0 W ).mono fun e W' ⟨he, hw⟩ => ?_
  subst he
  exact ⟨_, rfl, _, _, _, [], p, [], hW', trodAll_mk1 (shut_bool Try.underlying4 _), hR W' hw, rfl, hw.frame _, fun h => by cases h⟩

theorem over : Rows.fnExactMapBackRow.holds Try.pinned (OpenSpec.ofChange Rows.fnExactMapBackSpec) :=
  OpenClaim.holds_of_wide 7 Try.f7 rfl rfl rfl rfl rfl rfl rfl ⟨rfl, rfl, rfl, rfl, rfl⟩ rfl rfl rfl rfl rfl (by kernel_rfl) Try.func7 (by kernel_rfl)
    (of_decide_eq_true (by kernel_rfl)) (by unfold Func.isWrapper; first | (rw [if_pos (by decide +kernel)]; kernel_rfl) | (rw [if_neg (by decide +kernel)]; exact ⟨rfl, rfl⟩))
    (fun os started H enc _ => lifted os started H enc)

theorem proved : Rows.FnExactMapBackSaid := over
end Go.Proofs.Ytngfdfgeoieebaa.lawMapBack