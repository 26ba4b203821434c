/- FnExactCycleCounts: for every Map, valid or not, the law returns true and its argument reads as before. No condition. -/
import Derived.Test.YtngfdfgeoieebaaRows
import Derived.Test.YtngfdfgeoieebaaMg
import Derived.Test.YtngfdfgeoieebaaCz
import Derived.Test.YtngfdfgeoieebaaDa
namespace Go.Proofs.Ytngfdfgeoieebaa.lawCycleCounts
open Go.ChangeShapes Go.WideShapes Go.ChangeAt Go.RowKit
open Go.ChangeMaps (open_string shut_string)
open cards maps
set_option linter.unusedVariables false

set_option maxRecDepth 100000 in
set_option maxHeartbeats 4000000 in
theorem walk (m : Mp) (w : World) :
    Calls Try.prog 12 #[m.val] w fun e w' => e = .returned (.bool true) ∧ Below w.heap.size w w' := by
  obtain ⟨r, hr⟩ : ∃ r, cycR m = r := ⟨_, rfl⟩
  have HS := fun w => spec_cyc m w
  have HI := fun w => impl_cyc m w
  rw [hr] at HS HI
  clear hr
  obtain ⟨f, ok⟩ := r
  have HS := Lib.hid HS
  have HI := Lib.hid HI
  dsimp only at HS HI
  have K0 : Hid (MBox (w.alloc (Mv.obj ⟨26, m⟩)) w.heap.size ⟨26, m⟩) := Lib.hid (MBox.newAt rfl rfl)
  have HB : Hid (Below w.heap.size w (w.alloc (Mv.obj ⟨26, m⟩))) := Lib.hid ((Below.refl _ _).alloc (Nat.le_refl _) _)
  go_enter Try.func12, Try.ntmps12
  go_upto_region 1 with fail
  generalize w.alloc (Mv.obj ⟨26, m⟩) = W at *
  go_wp2_with ((with_reducible refine take_mapL rfl _ rfl K0.out ?_ ?_); rfl)
  refine (to_map m _).mono ?_
  rintro e u1 ⟨rfl, q⟩
  have K0 := Lib.hid (MBox.below K0.out q)
  have HB := Lib.hid (chain0 HB.out q)
  clear q
  go_wp2_with fail
  refine (HS.out _).mono ?_
  rintro e v1 ⟨rfl, q⟩
  have K0 := Lib.hid (MBox.below K0.out q)
  have HB := Lib.hid (chain0 HB.out q)
  clear q
  have k0z := K0.out.lt
  have hz := HB.out.size
  have K0 := Lib.hid (K0.out.alloc (.cells (cnt zeroC) 57))
  have HB := Lib.hid (HB.out.alloc hz (.cells (cnt zeroC) 57))
  go_upto_region 2 with ((with_reducible refine store_cnt rfl _ _ rfl (CBox.newAt (f := zeroC) rfl rfl) ?_ f ?_ ?_); rfl; rfl; intro w1 hM hG)
  have K0 := Lib.hid (MBox.marked K0.out hG (fun k hk => by injection hk with hk; omega))
  have HB := Lib.hid (Below.grown HB.out hG HB.out.size (fun k hk => by injection hk with hk; omega))
  have R1 := Lib.hid hM
  clear hM hG k0z hz
  go_wp2_with ((with_reducible refine take_mapL rfl _ rfl K0.out ?_ ?_); rfl)
  refine (to_map m _).mono ?_
  rintro e u2 ⟨rfl, q⟩
  have R1 := Lib.hid (CBox.below R1.out q)
  have HB := Lib.hid (chain0 HB.out q)
  clear q K0
  go_wp2_with fail
  refine (HI.out _).mono ?_
  rintro e v2 ⟨rfl, q⟩
  have R1 := Lib.hid (CBox.below R1.out q)
  have HB := Lib.hid (chain0 HB.out q)
  clear q
  have r1z := R1.out.lt
  have hz := HB.out.size
  have R1 := Lib.hid (R1.out.alloc (.cells (cnt zeroC) 57))
  have HB := Lib.hid (HB.out.alloc hz (.cells (cnt zeroC) 57))
  go_upto_region 3 with ((with_reducible refine store_cnt rfl _ _ rfl (CBox.newAt (f := zeroC) rfl rfl) ?_ f ?_ ?_); rfl; rfl; intro w2 hM hG)
  have R1 := Lib.hid (CBox.marked R1.out hG (fun e => by injection e with e; omega))
  have HB := Lib.hid (Below.grown HB.out hG HB.out.size (fun k hk => by injection hk with hk; omega))
  have R2 := Lib.hid hM
  clear hM hG r1z hz
  go_wp2_with (first | ((with_reducible refine take_cnt rfl _ rfl R1.out ?_ ?_); rfl) | ((with_reducible refine take_cnt rfl _ rfl R2.out ?_ ?_); rfl))
  refine (eq_a19 f _).mono ?_
  rintro e w5 ⟨rfl, q⟩
  have HB := Lib.hid (chain0 HB.out q)
  clear q
  go_wp2_with fail
  go_ret
  exact ⟨rfl, HB.out⟩

theorem own : ownKnob Try.prog.godebug = none := by kernel_rfl
theorem laidOut : laidOutB Try.prog = true := by kernel_rfl
set_option maxRecDepth 100000 in
set_option maxHeartbeats 1000000 in
theorem lifted (os : Os) (started : os.Started) (H : Type) (enc : TypeId × Value → H) :
    ReturnsInHanded {} Try.checked os 12 .any (Rows.fnExactCycleCountsSpec.pre6 enc Try.prog Try.f12 Rows.fnExactCycleCountsRow.domain false) (Rows.fnExactCycleCountsSpec.post enc Try.prog Try.f12 false true false false) := by
  refine returnsInHanded_of_change (C := Try.checked) own started (by kernel_rfl) Try.func12
    (ChangeSpec.witness6 (enc := enc) (C := Try.checked) false ⟨#[], #[.agg #[.int .i64 0, .int .i64 0, .int .i64 0, .int .i64 0, .int .i64 0, .int .i64 0, .int .i64 0, .int .i64 0, .int .i64 0, .int .i64 0, .int .i64 0, .int .i64 0, .int .i64 0, .int .i64 0, .int .i64 0, .int .i64 0]], []⟩ 8 (by kernel_rfl) (by kernel_rfl) (by kernel_rfl) (by kernel_rfl)) ?_
  intro W base args ds gs before hval0 hW hcnd _
  have hval : ∀ (j : Nat) t v, Try.f12.params[j]? = some t → args[j]? = some v → Value.okWide Try.prog W .any base t v := hval0
  have hW' := hW
  obtain ⟨p, q, hA0, hV, rfl, hfz, hnd⟩ := hW
  have hA : DataW.TrodAll enc Try.prog W 0 (fun _ => true) true Try.f12.params.toList args.toList ds p := hA0
  rw [Try.params12] at hA hval
  have hR := fun (W' : World) (hb : Below W.heap.size W W') => frame.still_all laidOut hb _ _ _ _ (by decide +kernel) hA
  obtain ⟨v0, vs0, d0, ds0, p0, q0, hargs, rfl, hp, h0, r0⟩ := trodAll_cons hA
  obtain ⟨rfl, rfl, hpn⟩ := trodAll_nil r0
  obtain rfl : args = #[v0] := by cases args; simp_all
  obtain ⟨rfl, rfl⟩ := trodVars_none hV
  obtain ⟨a0, rfl⟩ := frame.open_map Try.underlying26 rfl rfl rfl rfl Try.underlying22 Try.underlying24 Try.underlying23 Try.underlying3 (by kernel_rfl) (by kernel_rfl) (by kernel_rfl) (by kernel_rfl) (by kernel_rfl) (hval 0 26 v0 rfl rfl) h0
  clear hA0 hval0
  simp only [List.append_nil] at hW'
  refine (walk a0 W ).mono fun e W' ⟨he, hw⟩ => ?_
  subst he
  exact ⟨_, rfl, _, _, _, [], p, [], hW', trodAll_mk1 (shut_bool Try.underlying4 _), hR W' hw, rfl, hw.frame _, fun h => by cases h⟩

theorem over : Rows.fnExactCycleCountsRow.holds Try.pinned (OpenSpec.ofChange Rows.fnExactCycleCountsSpec) :=
  OpenClaim.holds_of_wide 12 Try.f12 rfl rfl rfl rfl rfl rfl rfl ⟨rfl, rfl, rfl, rfl, rfl⟩ rfl rfl rfl rfl rfl (by kernel_rfl) Try.func12 (by kernel_rfl)
    (of_decide_eq_true (by kernel_rfl)) (by unfold Func.isWrapper; first | (rw [if_pos (by decide +kernel)]; kernel_rfl) | (rw [if_neg (by decide +kernel)]; exact ⟨rfl, rfl⟩))
    (fun os started H enc _ => lifted os started H enc)

theorem proved : Rows.FnExactCycleCountsSaid := over
end Go.Proofs.Ytngfdfgeoieebaa.lawCycleCounts