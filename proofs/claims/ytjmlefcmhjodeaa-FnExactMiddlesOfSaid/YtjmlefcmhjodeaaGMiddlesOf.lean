/- FnExactMiddlesOf: for all four cards, valid or not, the law returns true and its arguments read as before. No condition. -/
import Derived.Test.YtjmlefcmhjodeaaRows
import Derived.Test.YtjmlefcmhjodeaaFr
import Derived.Test.YtjmlefcmhjodeaaFw
import Derived.Test.YtjmlefcmhjodeaaVy
import Derived.Test.YtjmlefcmhjodeaaGMiddlesOf0
namespace Go.Proofs.Ytjmlefcmhjodeaa.lawMiddlesOf
open Go.ChangeShapes Go.WideShapes Go.ChangeAt Go.RowKit
open Go.ChangeMaps (open_string shut_string)
open cards others reg
set_option linter.unusedVariables false

set_option maxRecDepth 100000 in
set_option maxHeartbeats 8000000 in
theorem walk (x y z t : Cd) (w : World) (hx : wf4 x) (hy : wf4 y) (hz : wf4 z) (ht : wf4 t) :
    Calls Try.prog 4 #[x.val, y.val, z.val, t.val] w fun e w' => e = .returned (.bool true) ∧ Below w.heap.size w w' := by
  have HL : Hid ((mdR x y z t).1.length ≤ 100000000) := Lib.hid (Nat.le_trans (mdR_len x y z t) (by omega))
  obtain ⟨RR, hR⟩ : ∃ RR, mdR x y z t = RR := ⟨_, rfl⟩
  have HS := fun w => spec_md x y z t w hx hy hz ht
  have HI := fun w => impl_md x y z t w
  rw [hR] at HS HI HL
  clear hR hx hy hz ht
  obtain ⟨R, ok⟩ := RR
  have HS := Lib.hid HS
  have HI := Lib.hid HI
  dsimp only at HS HI HL
  obtain ⟨m, hm⟩ : ∃ m, R.length = m := ⟨_, rfl⟩
  have HMm := Lib.hid hm
  rw [hm] at HL
  clear hm
  have K0 : Hid (Box ((((w.alloc x.obj).alloc y.obj).alloc z.obj).alloc t.obj) (w.heap.size) x) := Lib.hid ((((Box.newAt rfl rfl).alloc _).alloc _).alloc _)
  have K1 : Hid (Box ((((w.alloc x.obj).alloc y.obj).alloc z.obj).alloc t.obj) (w.heap.size + 1) y) := Lib.hid (((Box.newAt (by simp) rfl).alloc _).alloc _)
  have K2 : Hid (Box ((((w.alloc x.obj).alloc y.obj).alloc z.obj).alloc t.obj) (w.heap.size + 1 + 1) z) := Lib.hid ((Box.newAt (by simp) rfl).alloc _)
  have K3 : Hid (Box ((((w.alloc x.obj).alloc y.obj).alloc z.obj).alloc t.obj) (w.heap.size + 1 + 1 + 1) t) := Lib.hid (Box.newAt (by simp) rfl)
  have HB : Hid (Below w.heap.size w ((((w.alloc x.obj).alloc y.obj).alloc z.obj).alloc t.obj)) := Lib.hid (((((Below.refl _ _).alloc (Nat.le_refl _) _).alloc (by simp) _).alloc (by simp; omega) _).alloc (by simp; omega) _)
  go_enter Try.func4, Try.ntmps4
  go_upto_region 1 with fail
  generalize ((((w.alloc x.obj).alloc y.obj).alloc z.obj).alloc t.obj) = W at *
  refine region_BI [(true, 0), (true, 2), (true, 4), (true, 6), (false, 1), (false, 3), (false, 5), (false, 7), (false, 8), (true, 9), (true, 10), (true, 11), (true, 12), (true, 13)] (by kernel_rfl) rfl (by kernel_rfl) ?_
  refine chain_card 18 (g := w.heap.size) (off := 0) rfl rfl rfl _ rfl (by kernel_rfl) x (fun w' h => (K0.out.below h).cell) ?_
  refine chain_card 20 (g := w.heap.size + 1) (off := 0) rfl rfl rfl _ rfl (by kernel_rfl) y (fun w' h => (K1.out.below h).cell) ?_
  refine chain_card 22 (g := w.heap.size + 1 + 1) (off := 0) rfl rfl rfl _ rfl (by kernel_rfl) z (fun w' h => (K2.out.below h).cell) ?_
  refine chain_card 24 (g := w.heap.size + 1 + 1 + 1) (off := 0) rfl rfl rfl _ rfl (by kernel_rfl) t (fun w' h => (K3.out.below h).cell) ?_
  refine chain_call 19 rfl rfl rfl (fun w => by kernel_rfl) (fun w0 h0 => to_a4 x w0) ?_
  refine chain_call 21 rfl rfl rfl (fun w => by kernel_rfl) (fun w0 h0 => to_a4 y w0) ?_
  refine chain_call 23 rfl rfl rfl (fun w => by kernel_rfl) (fun w0 h0 => to_a4 z w0) ?_
  refine chain_call 25 rfl rfl rfl (fun w => by kernel_rfl) (fun w0 h0 => to_a4 t w0) ?_
  refine chain_callE 26 rfl rfl rfl (fun w => by kernel_rfl) (fun w0 h0 => (HS.out w0).mono ?_)
  rintro e wq ⟨va, rfl, opa, q⟩
  obtain ⟨pa, ca, rfl, _, _, _⟩ := opa.form
  rw [HMm.out] at opa ⊢
  refine ⟨_, rfl, q, fun w' => BI W w' ∧ Own w' W.heap.size (.slice pa m ca) R, ⟨fun w' h => h.1, fun w' h => Below.size h.1, fun w' h => ⟨Below.alloc h.1 (Below.size h.1) _, h.2.below ((Below.refl _ _).alloc (Nat.le_refl _) _)⟩⟩, ⟨BI.next h0 q, opa.base (Below.size h0)⟩, ?_⟩
  clear q opa h0
  refine chain_pure 17 (v := .tuple #[.slice pa m ca, .bool ok]) rfl rfl rfl (fun w => by kernel_rfl) ?_
  refine chain_pure 27 (v := .slice pa m ca) rfl rfl rfl (fun w => by kernel_rfl) ?_
  refine chain_pure 28 (v := .bool ok) rfl rfl rfl (fun w => by kernel_rfl) ?_
  refine chain_pure 9 (v := .slice pa m ca) rfl rfl rfl (fun w => by kernel_rfl) ?_
  refine chain_pure 10 (v := .bool ok) rfl rfl rfl (fun w => by kernel_rfl) ?_
  rintro w1 ⟨q, opa⟩
  simp only [Act.put, List.setIfInBounds_toArray, List.set_cons_zero, List.set_cons_succ]
  have Ra := Lib.hid opa.rd
  have K0 := Lib.hid (K0.out.below q)
  have K1 := Lib.hid (K1.out.below q)
  have K2 := Lib.hid (K2.out.below q)
  have K3 := Lib.hid (K3.out.below q)
  have HB := Lib.hid (chain0 HB.out q)
  clear q opa
  go_upto_region 2 with fail
  refine region_BI [(true, 0), (true, 2), (true, 4), (true, 6), (false, 1), (false, 3), (false, 5), (false, 7), (false, 8), (true, 9), (true, 10), (true, 11), (true, 12), (true, 13)] (by kernel_rfl) rfl (by kernel_rfl) ?_
  refine chain_card 30 (g := w.heap.size) (off := 0) rfl rfl rfl _ rfl (by kernel_rfl) x (fun w' h => (K0.out.below h).cell) ?_
  refine chain_card 32 (g := w.heap.size + 1) (off := 0) rfl rfl rfl _ rfl (by kernel_rfl) y (fun w' h => (K1.out.below h).cell) ?_
  refine chain_card 34 (g := w.heap.size + 1 + 1) (off := 0) rfl rfl rfl _ rfl (by kernel_rfl) z (fun w' h => (K2.out.below h).cell) ?_
  refine chain_card 36 (g := w.heap.size + 1 + 1 + 1) (off := 0) rfl rfl rfl _ rfl (by kernel_rfl) t (fun w' h => (K3.out.below h).cell) ?_
  refine chain_call 31 rfl rfl rfl (fun w => by kernel_rfl) (fun w0 h0 => to_a4 x w0) ?_
  refine chain_call 33 rfl rfl rfl (fun w => by kernel_rfl) (fun w0 h0 => to_a4 y w0) ?_
  refine chain_call 35 rfl rfl rfl (fun w => by kernel_rfl) (fun w0 h0 => to_a4 z w0) ?_
  refine chain_call 37 rfl rfl rfl (fun w => by kernel_rfl) (fun w0 h0 => to_a4 t w0) ?_
  refine chain_callE 38 rfl rfl rfl (fun w => by kernel_rfl) (fun w0 h0 => (HI.out w0).mono ?_)
  rintro e wq ⟨vb, rfl, opb, q⟩
  obtain ⟨pb, cb, rfl, _, _, _⟩ := opb.form
  rw [HMm.out] at opb ⊢
  refine ⟨_, rfl, q, fun w' => BI w1 w' ∧ Own w' w1.heap.size (.slice pb m cb) R, ⟨fun w' h => h.1, fun w' h => Below.size h.1, fun w' h => ⟨Below.alloc h.1 (Below.size h.1) _, h.2.below ((Below.refl _ _).alloc (Nat.le_refl _) _)⟩⟩, ⟨BI.next h0 q, opb.base (Below.size h0)⟩, ?_⟩
  clear q opb h0
  refine chain_pure 29 (v := .tuple #[.slice pb m cb, .bool ok]) rfl rfl rfl (fun w => by kernel_rfl) ?_
  refine chain_pure 39 (v := .slice pb m cb) rfl rfl rfl (fun w => by kernel_rfl) ?_
  refine chain_pure 40 (v := .bool ok) rfl rfl rfl (fun w => by kernel_rfl) ?_
  refine chain_pure 11 (v := .slice pb m cb) rfl rfl rfl (fun w => by kernel_rfl) ?_
  refine chain_pure 12 (v := .bool ok) rfl rfl rfl (fun w => by kernel_rfl) ?_
  rintro w2 ⟨q, opb⟩
  simp only [Act.put, List.setIfInBounds_toArray, List.set_cons_zero, List.set_cons_succ]
  have H12 : Hid (Below w1.heap.size w1 w2) := Lib.hid q
  have Ob := Lib.hid opb
  have hz2 := Below.size q
  clear q opb
  go_wp2_with fail
  refine (eq_hand R pb pa m cb ca _ HMm.out (by have := HL.out; omega) Ob.out.rd (Rd.below Ra.out H12.out)).mono ?_
  rintro e w3 ⟨rfl, q⟩
  have H13 := Lib.hid (chain0 H12.out q)
  have Ob := Lib.hid (Ob.out.below q)
  have hz3 := Nat.le_trans hz2 q.size
  clear q
  go_wp2_with fail
  refine (mark_hand R (.slice pb m cb) w1.heap.size 1 m _ HMm.out (by have := HL.out; omega) hz3 Ob.out).mono ?_
  rintro e w4 ⟨rfl, rb, hG⟩
  have H14 := Lib.hid (H13.out.grown hG hz3 (fun k hk => (Own.span rb k hk).1))
  have Ob := Lib.hid rb
  clear rb hG
  go_wp2_with fail
  refine (held_hand (.slice pb m cb) _ 1 m _ (by have := HL.out; omega) Ob.out).mono ?_
  rintro e w5 ⟨rfl, q⟩
  have H15 := Lib.hid (chain0 H14.out q)
  have Ob := Lib.hid (Ob.out.below q)
  have K0 := Lib.hid (K0.out.below H15.out)
  have K1 := Lib.hid (K1.out.below H15.out)
  have K2 := Lib.hid (K2.out.below H15.out)
  have K3 := Lib.hid (K3.out.below H15.out)
  have Ra := Lib.hid (Rd.below Ra.out H15.out)
  have HB := Lib.hid (chain0 HB.out H15.out)
  clear q H12 H13 H14 H15 hz2 hz3
  go_upto_region 13 with fail
  refine region_BI [(true, 0), (true, 2), (true, 4), (true, 6), (false, 1), (false, 3), (false, 5), (false, 7), (false, 8), (true, 9), (true, 10), (true, 11), (true, 12), (true, 13)] (by kernel_rfl) rfl (by kernel_rfl) ?_
  refine chain_card 62 (g := w.heap.size) (off := 0) rfl rfl rfl _ rfl (by kernel_rfl) x (fun w' h => (K0.out.below h).cell) ?_
  refine chain_card 64 (g := w.heap.size + 1) (off := 0) rfl rfl rfl _ rfl (by kernel_rfl) y (fun w' h => (K1.out.below h).cell) ?_
  refine chain_card 66 (g := w.heap.size + 1 + 1) (off := 0) rfl rfl rfl _ rfl (by kernel_rfl) z (fun w' h => (K2.out.below h).cell) ?_
  refine chain_card 68 (g := w.heap.size + 1 + 1 + 1) (off := 0) rfl rfl rfl _ rfl (by kernel_rfl) t (fun w' h => (K3.out.below h).cell) ?_
  refine chain_call 63 rfl rfl rfl (fun w => by kernel_rfl) (fun w0 h0 => to_a4 x w0) ?_
  refine chain_call 65 rfl rfl rfl (fun w => by kernel_rfl) (fun w0 h0 => to_a4 y w0) ?_
  refine chain_call 67 rfl rfl rfl (fun w => by kernel_rfl) (fun w0 h0 => to_a4 z w0) ?_
  refine chain_call 69 rfl rfl rfl (fun w => by kernel_rfl) (fun w0 h0 => to_a4 t w0) ?_
  refine chain_callE 70 rfl rfl rfl (fun w => by kernel_rfl) (fun w0 h0 => (HI.out w0).mono ?_)
  rintro e wq ⟨vc, rfl, opc, q⟩
  obtain ⟨pc, cc, rfl, _, _, _⟩ := opc.form
  rw [HMm.out] at opc ⊢
  refine ⟨_, rfl, q, fun w' => BI w5 w' ∧ Own w' w5.heap.size (.slice pc m cc) R, ⟨fun w' h => h.1, fun w' h => Below.size h.1, fun w' h => ⟨Below.alloc h.1 (Below.size h.1) _, h.2.below ((Below.refl _ _).alloc (Nat.le_refl _) _)⟩⟩, ⟨BI.next h0 q, opc.base (Below.size h0)⟩, ?_⟩
  clear q opc h0
  refine chain_pure 61 (v := .tuple #[.slice pc m cc, .bool ok]) rfl rfl rfl (fun w => by kernel_rfl) ?_
  refine chain_pure 71 (v := .slice pc m cc) rfl rfl rfl (fun w => by kernel_rfl) ?_
  refine chain_pure 72 (v := .bool ok) rfl rfl rfl (fun w => by kernel_rfl) ?_
  refine chain_pure 15 (v := .slice pc m cc) rfl rfl rfl (fun w => by kernel_rfl) ?_
  refine chain_pure 16 (v := .bool ok) rfl rfl rfl (fun w => by kernel_rfl) ?_
  rintro w6 ⟨q, opc⟩
  simp only [Act.put, List.setIfInBounds_toArray, List.set_cons_zero, List.set_cons_succ]
  have Rc := Lib.hid opc.rd
  have Ra := Lib.hid (Rd.below Ra.out q)
  have Ob := Lib.hid (Ob.out.below q)
  have HB := Lib.hid (chain0 HB.out q)
  clear q opc K0 K1 K2 K3
  go_wp2_with fail
  refine (eq_hand R pc pa m cc ca _ HMm.out (by have := HL.out; omega) Rc.out Ra.out).mono ?_
  rintro e w7 ⟨rfl, q⟩
  have Ob := Lib.hid (Ob.out.below q)
  have HB := Lib.hid (chain0 HB.out q)
  clear q
  go_wp2_with fail
  refine (held_hand (.slice pb m cb) _ 1 m _ (by have := HL.out; omega) Ob.out).mono ?_
  rintro e w8 ⟨rfl, q⟩
  have HB := Lib.hid (chain0 HB.out q)
  clear q
  go_wp2_with fail
  go_ret
  exact ⟨rfl, HB.out⟩

theorem own : ownKnob Try.prog.godebug = none := by kernel_rfl
theorem laidOut : laidOutB Try.prog = true := by kernel_rfl
set_option maxRecDepth 100000 in
set_option maxHeartbeats 1000000 in
theorem lifted (os : Os) (started : os.Started) (H : Type) (enc : TypeId × Value → H) :
    ReturnsInHanded {} Try.checked os 4 .any (Rows.fnExactMiddlesOfSpec.pre6 enc Try.prog Try.f4 Rows.fnExactMiddlesOfRow.domain false) (Rows.fnExactMiddlesOfSpec.post enc Try.prog Try.f4 false true false false) := by
  refine returnsInHanded_of_change (C := Try.checked) own started (by kernel_rfl) Try.func4
    (ChangeSpec.witness6 (enc := enc) (C := Try.checked) false ⟨#[], #[.agg #[.int .i64 0, .int .i64 0, .int .i64 0, .int .i64 0], .agg #[.int .i64 0, .int .i64 0, .int .i64 0, .int .i64 0], .agg #[.int .i64 0, .int .i64 0, .int .i64 0, .int .i64 0], .agg #[.int .i64 0, .int .i64 0, .int .i64 0, .int .i64 0]], []⟩ 8 (by kernel_rfl) (by kernel_rfl) (by kernel_rfl) (by kernel_rfl)) ?_
  intro W base args ds gs before hval0 hW hcnd _
  have hval : ∀ (j : Nat) t v, Try.f4.params[j]? = some t → args[j]? = some v → Value.okWide Try.prog W .any base t v := hval0
  have hW' := hW
  obtain ⟨p, q, hA0, hV, rfl, hfz, hnd⟩ := hW
  have hA : DataW.TrodAll enc Try.prog W 0 (fun _ => true) true Try.f4.params.toList args.toList ds p := hA0
  rw [Try.params4] at hA hval
  have hR := fun (W' : World) (hb : Below W.heap.size W W') => frame.still_all laidOut hb _ _ _ _ (by decide +kernel) hA
  obtain ⟨v0, vs0, d0, ds0, p0, q0, hargs, rfl, hp, h0, r0⟩ := trodAll_cons hA
  obtain ⟨v1, vs1, d1, ds1, p1, q1, rfl, rfl, hp1, h1, r1⟩ := trodAll_cons r0
  obtain ⟨v2, vs2, d2, ds2, p2, q2, rfl, rfl, hp2, h2, r2⟩ := trodAll_cons r1
  obtain ⟨v3, vs3, d3, ds3, p3, q3, rfl, rfl, hp3, h3, r3⟩ := trodAll_cons r2
  obtain ⟨rfl, rfl, hpn⟩ := trodAll_nil r3
  obtain rfl : args = #[v0, v1, v2, v3] := by cases args; simp_all
  obtain ⟨rfl, rfl⟩ := trodVars_none hV
  obtain ⟨a0, rfl, w0⟩ := frame.open_a4w Try.underlying25 Try.underlying3 (by kernel_rfl) (by kernel_rfl) (hval 0 25 v0 rfl rfl) h0
  obtain ⟨a1, rfl, w1⟩ := frame.open_a4w Try.underlying25 Try.underlying3 (by kernel_rfl) (by kernel_rfl) (hval 1 25 v1 rfl rfl) h1
  obtain ⟨a2, rfl, w2⟩ := frame.open_a4w Try.underlying25 Try.underlying3 (by kernel_rfl) (by kernel_rfl) (hval 2 25 v2 rfl rfl) h2
  obtain ⟨a3, rfl, w3⟩ := frame.open_a4w Try.underlying25 Try.underlying3 (by kernel_rfl) (by kernel_rfl) (hval 3 25 v3 rfl rfl) h3
  clear hA0 hval0
  simp only [List.append_nil] at hW'
  refine (walk a0 a1 a2 a3 W w0 w1 w2 w3).mono fun e W' ⟨he, hw⟩ => ?_
  subst he
  exact ⟨_, rfl, _, _, _, [], p, [], hW', trodAll_mk1 (shut_bool Try.underlying4 _), hR W' hw, rfl, hw.frame _, fun h => by cases h⟩

theorem over : Rows.fnExactMiddlesOfRow.holds Try.pinned (OpenSpec.ofChange Rows.fnExactMiddlesOfSpec) :=
  OpenClaim.holds_of_wide 4 Try.f4 rfl rfl rfl rfl rfl rfl rfl ⟨rfl, rfl, rfl, rfl, rfl⟩ rfl rfl rfl rfl rfl (by kernel_rfl) Try.func4 (by kernel_rfl)
    (of_decide_eq_true (by kernel_rfl)) (by unfold Func.isWrapper; first | (rw [if_pos (by decide +kernel)]; kernel_rfl) | (rw [if_neg (by decide +kernel)]; exact ⟨rfl, rfl⟩))
    (fun os started H enc _ => lifted os started H enc)

theorem proved : Rows.FnExactMiddlesOfSaid := over
end Go.Proofs.Ytjmlefcmhjodeaa.lawMiddlesOf