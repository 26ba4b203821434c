/- FnExactPlaneOf: for all three cards, valid or not, the law returns true and its arguments read as before. No condition. -/
import Derived.Test.YtdhcdogmbclhaaaRows
import Derived.Test.YtdhcdogmbclhaaaFr
import Derived.Test.YtdhcdogmbclhaaaYg
namespace Go.Proofs.Ytdhcdogmbclhaaa.lawPlaneOf
open Go.ChangeShapes Go.WideShapes Go.ChangeAt Go.RowKit
open Go.ChangeMaps (open_string shut_string)
open cards planes reg
set_option linter.unusedVariables false

set_option maxRecDepth 100000 in
set_option maxHeartbeats 8000000 in
theorem walk (a b c : Cd) (w : World) :
    Calls Try.prog 6 #[a.val, b.val, c.val] w fun e w' => e = .returned (.bool true) ∧ Below w.heap.size w w' := by
  have HL : Hid ((poR a b c).1.length ≤ 100000000) := Lib.hid (poR_len a b c)
  obtain ⟨RR, hR⟩ : ∃ RR, poR a b c = RR := ⟨_, rfl⟩
  have HS := fun w => spec_po a b c w
  have HI := fun w => impl_po a b c w
  rw [hR] at HS HI HL
  clear hR
  obtain ⟨R, ok⟩ := RR
  have HS := Lib.hid HS
  have HI := Lib.hid HI
  dsimp only at HS HI HL
  obtain ⟨m, hm⟩ : ∃ m, R.length = m := ⟨_, rfl⟩
  have HMm := Lib.hid hm
  rw [hm] at HL
  clear hm
  have K0 : Hid (Box (((w.alloc a.obj).alloc b.obj).alloc c.obj) (w.heap.size) a) := Lib.hid (((Box.newAt rfl rfl).alloc _).alloc _)
  have K1 : Hid (Box (((w.alloc a.obj).alloc b.obj).alloc c.obj) (w.heap.size + 1) b) := Lib.hid ((Box.newAt (by simp) rfl).alloc _)
  have K2 : Hid (Box (((w.alloc a.obj).alloc b.obj).alloc c.obj) (w.heap.size + 1 + 1) c) := Lib.hid (Box.newAt (by simp) rfl)
  have HB : Hid (Below w.heap.size w (((w.alloc a.obj).alloc b.obj).alloc c.obj)) := Lib.hid ((((Below.refl _ _).alloc (Nat.le_refl _) _).alloc (by simp) _).alloc (by simp; omega) _)
  go_enter Try.func6, Try.ntmps6
  go_upto_region 1 with fail
  generalize ((w.alloc a.obj).alloc b.obj).alloc c.obj = W at *
  refine region_BI [(true, 0), (true, 2), (true, 4), (false, 1), (false, 3), (false, 5), (false, 6), (true, 7), (true, 8), (true, 9), (true, 10), (true, 11)] (by kernel_rfl) rfl (by kernel_rfl) ?_
  refine chain_card 16 (g := w.heap.size) (off := 0) rfl rfl rfl _ rfl (by kernel_rfl) a (fun w' h => (K0.out.below h).cell) ?_
  refine chain_card 18 (g := w.heap.size + 1) (off := 0) rfl rfl rfl _ rfl (by kernel_rfl) b (fun w' h => (K1.out.below h).cell) ?_
  refine chain_card 20 (g := w.heap.size + 1 + 1) (off := 0) rfl rfl rfl _ rfl (by kernel_rfl) c (fun w' h => (K2.out.below h).cell) ?_
  refine chain_call 17 rfl rfl rfl (fun w => by kernel_rfl) (fun w0 h0 => to_a4 a w0) ?_
  refine chain_call 19 rfl rfl rfl (fun w => by kernel_rfl) (fun w0 h0 => to_a4 b w0) ?_
  refine chain_call 21 rfl rfl rfl (fun w => by kernel_rfl) (fun w0 h0 => to_a4 c w0) ?_
  refine chain_callE 22 rfl rfl rfl (fun w => by kernel_rfl) (fun w0 h0 => (HS.out w0).mono ?_)
  rintro e wq ⟨pa, npa, cpa, rfl, opa, q⟩
  obtain rfl : m = npa := by rw [← HMm.out]; exact opa.1
  refine ⟨_, rfl, q, fun w' => BI W w' ∧ OwnP w' W.heap.size pa m cpa R, ⟨fun w' h => h.1, fun w' h => Below.size h.1, fun w' h => ⟨Below.alloc h.1 (Below.size h.1) _, h.2.below ((Below.refl _ _).alloc (Nat.le_refl _) _)⟩⟩, ⟨BI.next h0 q, opa.base (Below.size h0)⟩, ?_⟩
  clear q opa h0
  refine chain_pure 15 (v := .tuple #[.slice pa m cpa, .bool ok]) rfl rfl rfl (fun w => by kernel_rfl) ?_
  refine chain_pure 23 (v := .slice pa m cpa) rfl rfl rfl (fun w => by kernel_rfl) ?_
  refine chain_pure 24 (v := .bool ok) rfl rfl rfl (fun w => by kernel_rfl) ?_
  refine chain_pure 7 (v := .slice pa m cpa) rfl rfl rfl (fun w => by kernel_rfl) ?_
  refine chain_pure 8 (v := .bool ok) rfl rfl rfl (fun w => by kernel_rfl) ?_
  rintro w1 ⟨q, opa⟩
  simp only [Act.put, List.setIfInBounds_toArray, List.set_cons_zero, List.set_cons_succ]
  have Ra := Lib.hid opa.rd
  have K0 := Lib.hid (K0.out.below q)
  have K1 := Lib.hid (K1.out.below q)
  have K2 := Lib.hid (K2.out.below q)
  have HB := Lib.hid (chain0 HB.out q)
  clear q opa
  go_upto_region 2 with fail
  refine region_BI [(true, 0), (true, 2), (true, 4), (false, 1), (false, 3), (false, 5), (false, 6), (true, 7), (true, 8), (true, 9), (true, 10), (true, 11)] (by kernel_rfl) rfl (by kernel_rfl) ?_
  refine chain_card 26 (g := w.heap.size) (off := 0) rfl rfl rfl _ rfl (by kernel_rfl) a (fun w' h => (K0.out.below h).cell) ?_
  refine chain_card 28 (g := w.heap.size + 1) (off := 0) rfl rfl rfl _ rfl (by kernel_rfl) b (fun w' h => (K1.out.below h).cell) ?_
  refine chain_card 30 (g := w.heap.size + 1 + 1) (off := 0) rfl rfl rfl _ rfl (by kernel_rfl) c (fun w' h => (K2.out.below h).cell) ?_
  refine chain_call 27 rfl rfl rfl (fun w => by kernel_rfl) (fun w0 h0 => to_a4 a w0) ?_
  refine chain_call 29 rfl rfl rfl (fun w => by kernel_rfl) (fun w0 h0 => to_a4 b w0) ?_
  refine chain_call 31 rfl rfl rfl (fun w => by kernel_rfl) (fun w0 h0 => to_a4 c w0) ?_
  refine chain_callE 32 rfl rfl rfl (fun w => by kernel_rfl) (fun w0 h0 => (HI.out w0).mono ?_)
  rintro e wq ⟨pb, npb, cpb, rfl, opb, q⟩
  obtain rfl : m = npb := by rw [← HMm.out]; exact opb.1
  refine ⟨_, rfl, q, fun w' => BI w1 w' ∧ OwnP w' w1.heap.size pb m cpb R, ⟨fun w' h => h.1, fun w' h => Below.size h.1, fun w' h => ⟨Below.alloc h.1 (Below.size h.1) _, h.2.below ((Below.refl _ _).alloc (Nat.le_refl _) _)⟩⟩, ⟨BI.next h0 q, opb.base (Below.size h0)⟩, ?_⟩
  clear q opb h0
  refine chain_pure 25 (v := .tuple #[.slice pb m cpb, .bool ok]) rfl rfl rfl (fun w => by kernel_rfl) ?_
  refine chain_pure 33 (v := .slice pb m cpb) rfl rfl rfl (fun w => by kernel_rfl) ?_
  refine chain_pure 34 (v := .bool ok) rfl rfl rfl (fun w => by kernel_rfl) ?_
  refine chain_pure 9 (v := .slice pb m cpb) rfl rfl rfl (fun w => by kernel_rfl) ?_
  refine chain_pure 10 (v := .bool ok) rfl rfl rfl (fun w => by kernel_rfl) ?_
  rintro w2 ⟨q, opb⟩
  simp only [Act.put, List.setIfInBounds_toArray, List.set_cons_zero, List.set_cons_succ]
  have H12 : Hid (Below w1.heap.size w1 w2) := Lib.hid q
  have Ob := Lib.hid opb
  have hz2 := Below.size q
  clear q opb
  go_wp2_with fail
  refine (eq_hand R pb pa m cpb cpa _ HMm.out (by have := HL.out; omega) Ob.out.rd (Rd.below Ra.out H12.out)).mono ?_
  rintro e w3 ⟨rfl, q⟩
  have H13 := Lib.hid (chain0 H12.out q)
  have Ob := Lib.hid (Ob.out.below q)
  have hz3 := Nat.le_trans hz2 q.size
  clear q
  go_wp2_with fail
  refine (mark_P R pb w1.heap.size cpb 1 m _ (by have := HL.out; omega) hz3 Ob.out).mono ?_
  rintro e w4 ⟨rfl, rb, hG, hlo⟩
  have H14 := Lib.hid (H13.out.grown hG hz3 hlo)
  have Rb := Lib.hid rb
  clear rb hG hlo Ob
  go_wp2_with fail
  refine (held_rd pb cpb 1 m _ (by have := HL.out; omega) Rb.out).mono ?_
  rintro e w5 ⟨rfl, q⟩
  have H15 := Lib.hid (chain0 H14.out q)
  have Rb := Lib.hid (Rd.below Rb.out q)
  have K0 := Lib.hid (K0.out.below H15.out)
  have K1 := Lib.hid (K1.out.below H15.out)
  have K2 := Lib.hid (K2.out.below H15.out)
  have Ra := Lib.hid (Rd.below Ra.out H15.out)
  have HB := Lib.hid (chain0 HB.out H15.out)
  clear q H12 H13 H14 H15 hz2 hz3
  go_upto_region 13 with fail
  refine region_BI [(true, 0), (true, 2), (true, 4), (false, 1), (false, 3), (false, 5), (false, 6), (true, 7), (true, 8), (true, 9), (true, 10), (true, 11)] (by kernel_rfl) rfl (by kernel_rfl) ?_
  refine chain_card 56 (g := w.heap.size) (off := 0) rfl rfl rfl _ rfl (by kernel_rfl) a (fun w' h => (K0.out.below h).cell) ?_
  refine chain_card 58 (g := w.heap.size + 1) (off := 0) rfl rfl rfl _ rfl (by kernel_rfl) b (fun w' h => (K1.out.below h).cell) ?_
  refine chain_card 60 (g := w.heap.size + 1 + 1) (off := 0) rfl rfl rfl _ rfl (by kernel_rfl) c (fun w' h => (K2.out.below h).cell) ?_
  refine chain_call 57 rfl rfl rfl (fun w => by kernel_rfl) (fun w0 h0 => to_a4 a w0) ?_
  refine chain_call 59 rfl rfl rfl (fun w => by kernel_rfl) (fun w0 h0 => to_a4 b w0) ?_
  refine chain_call 61 rfl rfl rfl (fun w => by kernel_rfl) (fun w0 h0 => to_a4 c w0) ?_
  refine chain_callE 62 rfl rfl rfl (fun w => by kernel_rfl) (fun w0 h0 => (HI.out w0).mono ?_)
  rintro e wq ⟨pc, npc, cpc, rfl, opc, q⟩
  obtain rfl : m = npc := by rw [← HMm.out]; exact opc.1
  refine ⟨_, rfl, q, fun w' => BI w5 w' ∧ OwnP w' w5.heap.size pc m cpc R, ⟨fun w' h => h.1, fun w' h => Below.size h.1, fun w' h => ⟨Below.alloc h.1 (Below.size h.1) _, h.2.below ((Below.refl _ _).alloc (Nat.le_refl _) _)⟩⟩, ⟨BI.next h0 q, opc.base (Below.size h0)⟩, ?_⟩
  clear q opc h0
  refine chain_pure 55 (v := .tuple #[.slice pc m cpc, .bool ok]) rfl rfl rfl (fun w => by kernel_rfl) ?_
  refine chain_pure 63 (v := .slice pc m cpc) rfl rfl rfl (fun w => by kernel_rfl) ?_
  refine chain_pure 64 (v := .bool ok) rfl rfl rfl (fun w => by kernel_rfl) ?_
  refine chain_pure 13 (v := .slice pc m cpc) rfl rfl rfl (fun w => by kernel_rfl) ?_
  refine chain_pure 14 (v := .bool ok) rfl rfl rfl (fun w => by kernel_rfl) ?_
  rintro w6 ⟨q, opc⟩
  simp only [Act.put, List.setIfInBounds_toArray, List.set_cons_zero, List.set_cons_succ]
  have Rc := Lib.hid opc.rd
  have Ra := Lib.hid (Rd.below Ra.out q)
  have Rb := Lib.hid (Rd.below Rb.out q)
  have HB := Lib.hid (chain0 HB.out q)
  clear q opc K0 K1 K2
  go_wp2_with fail
  refine (eq_hand R pc pa m cpc cpa _ HMm.out (by have := HL.out; omega) Rc.out Ra.out).mono ?_
  rintro e w7 ⟨rfl, q⟩
  have Rb := Lib.hid (Rd.below Rb.out q)
  have HB := Lib.hid (chain0 HB.out q)
  clear q
  go_wp2_with fail
  refine (held_rd pb cpb 1 m _ (by have := HL.out; omega) Rb.out).mono ?_
  rintro e w8 ⟨rfl, q⟩
  have HB := Lib.hid (chain0 HB.out q)
  clear q
  go_wp2_with fail
  go_ret
  exact ⟨rfl, HB.out⟩

theorem own : ownKnob Try.prog.godebug = none := by kernel_rfl
theorem laidOut : laidOutB Try.prog = true := by kernel_rfl
set_option maxRecDepth 100000 in
set_option maxHeartbeats 1000000 in
theorem lifted (os : Os) (started : os.Started) (H : Type) (enc : TypeId × Value → H) :
    ReturnsInHanded {} Try.checked os 6 .any (Rows.fnExactPlaneOfSpec.pre6 enc Try.prog Try.f6 Rows.fnExactPlaneOfRow.domain false) (Rows.fnExactPlaneOfSpec.post enc Try.prog Try.f6 false true false false) := by
  refine returnsInHanded_of_change (C := Try.checked) own started (by kernel_rfl) Try.func6
    (ChangeSpec.witness6 (enc := enc) (C := Try.checked) false ⟨#[], #[.agg #[.int .i64 0, .int .i64 0, .int .i64 0, .int .i64 0], .agg #[.int .i64 0, .int .i64 0, .int .i64 0, .int .i64 0], .agg #[.int .i64 0, .int .i64 0, .int .i64 0, .int .i64 0]], []⟩ 8 (by kernel_rfl) (by kernel_rfl) (by kernel_rfl) (by kernel_rfl)) ?_
  intro W base args ds gs before hval0 hW hcnd _
  have hval : ∀ (j : Nat) t v, Try.f6.params[j]? = some t → args[j]? = some v → Value.okWide Try.prog W .any base t v := hval0
  have hW' := hW
  obtain ⟨p, q, hA0, hV, rfl, hfz, hnd⟩ := hW
  have hA : DataW.TrodAll enc Try.prog W 0 (fun _ => true) true Try.f6.params.toList args.toList ds p := hA0
  rw [Try.params6] at hA hval
  have hR := fun (W' : World) (hb : Below W.heap.size W W') => frame.still_all laidOut hb _ _ _ _ (by decide +kernel) hA
  obtain ⟨v0, vs0, d0, ds0, p0, q0, hargs, rfl, hp, h0, r0⟩ := trodAll_cons hA
  obtain ⟨v1, vs1, d1, ds1, p1, q1, rfl, rfl, hp1, h1, r1⟩ := trodAll_cons r0
  obtain ⟨v2, vs2, d2, ds2, p2, q2, rfl, rfl, hp2, h2, r2⟩ := trodAll_cons r1
  obtain ⟨rfl, rfl, hpn⟩ := trodAll_nil r2
  obtain rfl : args = #[v0, v1, v2] := by cases args; simp_all
  obtain ⟨rfl, rfl⟩ := trodVars_none hV
  obtain ⟨a0, rfl⟩ := frame.open_a4 Try.underlying33 Try.underlying3 (by kernel_rfl) (by kernel_rfl) (hval 0 33 v0 rfl rfl) h0
  obtain ⟨a1, rfl⟩ := frame.open_a4 Try.underlying33 Try.underlying3 (by kernel_rfl) (by kernel_rfl) (hval 1 33 v1 rfl rfl) h1
  obtain ⟨a2, rfl⟩ := frame.open_a4 Try.underlying33 Try.underlying3 (by kernel_rfl) (by kernel_rfl) (hval 2 33 v2 rfl rfl) h2
  clear hA0 hval0
  simp only [List.append_nil] at hW'
  refine (walk a0 a1 a2 W ).mono fun e W' ⟨he, hw⟩ => ?_
  subst he
  exact ⟨_, rfl, _, _, _, [], p, [], hW', trodAll_mk1 (shut_bool Try.underlying4 _), hR W' hw, rfl, hw.frame _, fun h => by cases h⟩

theorem over : Rows.fnExactPlaneOfRow.holds Try.pinned (OpenSpec.ofChange Rows.fnExactPlaneOfSpec) :=
  OpenClaim.holds_of_wide 6 Try.f6 rfl rfl rfl rfl rfl rfl rfl ⟨rfl, rfl, rfl, rfl, rfl⟩ rfl rfl rfl rfl rfl (by kernel_rfl) Try.func6 (by kernel_rfl)
    (of_decide_eq_true (by kernel_rfl)) (by unfold Func.isWrapper; first | (rw [if_pos (by decide +kernel)]; kernel_rfl) | (rw [if_neg (by decide +kernel)]; exact ⟨rfl, rfl⟩))
    (fun os started H enc _ => lifted os started H enc)

theorem proved : Rows.FnExactPlaneOfSaid := over
end Go.Proofs.Ytdhcdogmbclhaaa.lawPlaneOf