/- FnExactMagicSquare: for all three cards, valid or not, the law returns true and its arguments read as before. No condition. -/
import Derived.Test.YtdhcdogmbclhaaaRows
import Derived.Test.YtdhcdogmbclhaaaFr
import Derived.Test.YtdhcdogmbclhaaaGMagicSquare0
namespace Go.Proofs.Ytdhcdogmbclhaaa.lawMagicSquare
open Go.ChangeShapes Go.WideShapes Go.ChangeAt Go.RowKit
open Go.ChangeMaps (open_string shut_string)
open cards planes reg
set_option linter.unusedVariables false

def msL (a b c : Cd) : List Cd := if triB a b c = true then sq a b c else List.replicate 9 zero
theorem msL_len (a b c : Cd) : (msL a b c).length = 9 := by
  unfold msL
  split
  · exact sq_len a b c
  · rfl
theorem z36_av : z36 = av (List.replicate 9 zero) := by kernel_rfl
theorem msL_av (a b c : Cd) : (msR a b c).1 = av (msL a b c) := by
  unfold msL msR
  by_cases h : triB a b c = true
  · rw [if_pos h, if_pos h]
  · rw [if_neg h, if_neg h]; exact z36_av

set_option maxRecDepth 100000 in
set_option maxHeartbeats 4000000 in
theorem eq_a9 (L : List Cd) (w : World) (hL : L.length = 9) :
    Calls Try.prog 31 #[.agg (av L), .agg (av L)] w fun e w' => e = .returned (.bool true) ∧ Below w.heap.size w w' := by
  have K0 : Hid (VB ((w.alloc (.cells (av L) 37)).alloc (.cells (av L) 37)) w.heap.size 37 (av L)) := Lib.hid ((VB.newAt rfl rfl).alloc _)
  have K1 : Hid (VB ((w.alloc (.cells (av L) 37)).alloc (.cells (av L) 37)) (w.heap.size + 1) 37 (av L)) := Lib.hid (VB.newAt (by simp) rfl)
  have HB : Hid (Below w.heap.size w ((w.alloc (.cells (av L) 37)).alloc (.cells (av L) 37))) := Lib.hid (((Below.refl _ _).alloc (Nat.le_refl _) _).alloc (by simp) _)
  have HL := Lib.hid hL
  clear hL
  go_enter Try.func31, Try.ntmps31
  go_upto_region 1 with fail
  generalize (w.alloc (.cells (av L) 37)).alloc (.cells (av L) 37) = W at *
  go_wp2_with fail
  go_loopw [5] (fun iv wr => ∃ i : Nat, i ≤ 9 ∧ iv = .int .i64 i ∧ Hid (VB wr w.heap.size 37 (av L)) ∧ Hid (VB wr (w.heap.size + 1) 37 (av L)) ∧ Hid (Below w.heap.size w wr)) (fun iv _ => 9 - (intOf iv).toNat)
  case atStart => exact ⟨0, Nat.zero_le _, rfl, K0, K1, HB⟩
  case round =>
    clear K0 K1 HB
    obtain ⟨i, hi, rfl, K0, K1, HB⟩ := hrel
    by_cases hit : i < 9
    · have m0 : (0 : Int) ≤ (i : Int) := by omega
      have m1 : (i : Int) < 9 := by omega
      obtain ⟨x, hx⟩ : ∃ x, L[i]? = some x := ⟨_, List.getElem?_eq_getElem (by rw [HL.out]; exact hit)⟩
      have HX := Lib.hid hx
      have hq := fun w => eq_a4 x x w
      rw [same_self] at hq
      have HQ := Lib.hid hq
      clear hq hx
      go_upto_region 4 with fail
      refine region_BI [(true, 0), (true, 1), (true, 2), (true, 3), (true, 4), (true, 5), (false, 6), (true, 7)] (by kernel_rfl) rfl (by kernel_rfl) ?_
      refine chain_pure 10 (v := .int .i64 i) rfl rfl rfl (fun w => by kernel_rfl) ?_
      refine chain_pure 11 (v := .pointer (some ⟨w.heap.size, i * 4, none⟩)) rfl rfl rfl (exec_index9 hit rfl (by kernel_rfl) (by kernel_rfl)) ?_
      refine chain_card 12 rfl rfl rfl _ rfl (by kernel_rfl) x (fun w' h => vb_slots (K0.out.below h) HX.out) ?_
      refine chain_pure 13 (v := .int .i64 i) rfl rfl rfl (fun w => by kernel_rfl) ?_
      refine chain_pure 14 (v := .pointer (some ⟨w.heap.size + 1, i * 4, none⟩)) rfl rfl rfl (exec_index9 hit rfl (by kernel_rfl) (by kernel_rfl)) ?_
      refine chain_card 15 rfl rfl rfl _ rfl (by kernel_rfl) x (fun w' h => vb_slots (K1.out.below h) HX.out) ?_
      refine chain_call 16 rfl rfl rfl (fun w => by kernel_rfl) (fun w0 h0 => HQ.out w0) ?_
      refine chain_pure 17 (v := .bool false) rfl rfl rfl (fun w => by kernel_rfl) ?_
      intro w4 b4
      simp only [Act.put, List.setIfInBounds_toArray, List.set_cons_zero, List.set_cons_succ]
      have HB := Lib.hid (chain0 HB.out b4)
      have K0 := Lib.hid (K0.out.below b4)
      have K1 := Lib.hid (K1.out.below b4)
      clear b4
      go_wp2_with fail
      go_roundw
      case rel => exact ⟨i + 1, by omega, by go_num, K0, K1, HB⟩
      case measure => simp [intOf]; omega
    · obtain rfl : i = 9 := by omega
      go_wp2_with fail
      go_ret
      exact ⟨rfl, HB.out⟩

set_option maxRecDepth 100000 in
set_option maxHeartbeats 8000000 in
theorem walk (a b c : Cd) (w : World) :
    Calls Try.prog 7 #[a.val, b.val, c.val] w fun e w' => e = .returned (.bool true) ∧ Below w.heap.size w w' := by
  obtain ⟨ok, hok⟩ : ∃ ok, (msR a b c).2 = ok := ⟨_, rfl⟩
  have HS := fun w => spec_ms a b c w
  have HI := fun w => impl_ms a b c w
  rw [hok, msL_av] at HS HI
  have HL := msL_len a b c
  clear hok
  obtain ⟨L, hL⟩ : ∃ L, msL a b c = L := ⟨_, rfl⟩
  rw [hL] at HS HI HL
  clear hL
  have HS := Lib.hid HS
  have HI := Lib.hid HI
  have HSz := Lib.hid (av_size9 HL)
  have HL := Lib.hid HL
  have K0 : Hid (Box (((w.alloc a.obj).alloc b.obj).alloc c.obj) (w.heap.size) a) := Lib.hid (((Box.newAt rfl rfl).alloc _).alloc _)
  have K1 : Hid (Box (((w.alloc a.obj).alloc b.obj).alloc c.obj) (w.heap.size + 1) b) := Lib.hid ((Box.newAt (by simp) rfl).alloc _)
  have K2 : Hid (Box (((w.alloc a.obj).alloc b.obj).alloc c.obj) (w.heap.size + 1 + 1) c) := Lib.hid (Box.newAt (by simp) rfl)
  have HB : Hid (Below w.heap.size w (((w.alloc a.obj).alloc b.obj).alloc c.obj)) := Lib.hid ((((Below.refl _ _).alloc (Nat.le_refl _) _).alloc (by simp) _).alloc (by simp; omega) _)
  go_enter Try.func7, Try.ntmps7
  go_upto_region 1 with fail
  generalize ((w.alloc a.obj).alloc b.obj).alloc c.obj = W at *
  refine region_vb 37 z36 [(true, 0), (true, 2), (true, 4), (false, 1), (false, 3), (false, 5), (false, 6), (true, 7), (true, 8), (true, 9)] 10 11 7 [(12, 8, 20)] _ _ 19 z36_info (fun w => by kernel_rfl) (by kernel_rfl) rfl rfl (by kernel_rfl) rfl rfl rfl rfl rfl rfl rfl rfl (by decide) (of_decide_eq_true rfl) ?_
  refine chain_card 12 (g := w.heap.size) (off := 0) rfl rfl rfl _ rfl (by kernel_rfl) a (fun w' h => (K0.out.below h).cell) ?_
  refine chain_card 14 (g := w.heap.size + 1) (off := 0) rfl rfl rfl _ rfl (by kernel_rfl) b (fun w' h => (K1.out.below h).cell) ?_
  refine chain_card 16 (g := w.heap.size + 1 + 1) (off := 0) rfl rfl rfl _ rfl (by kernel_rfl) c (fun w' h => (K2.out.below h).cell) ?_
  refine chain_call 13 rfl rfl rfl (fun w => by kernel_rfl) (fun w0 h0 => to_a4 a w0) ?_
  refine chain_call 15 rfl rfl rfl (fun w => by kernel_rfl) (fun w0 h0 => to_a4 b w0) ?_
  refine chain_call 17 rfl rfl rfl (fun w => by kernel_rfl) (fun w0 h0 => to_a4 c w0) ?_
  refine chain_call 18 rfl rfl rfl (fun w => by kernel_rfl) (fun w0 h0 => HS.out w0) ?_
  refine chain_pure 11 (v := .tuple #[.agg (av L), .bool ok]) rfl rfl rfl (fun w => by kernel_rfl) ?_
  refine chain_pure 19 (v := .agg (av L)) rfl rfl rfl (fun w => by kernel_rfl) ?_
  refine chain_pure 20 (v := .bool ok) rfl rfl rfl (fun w => by kernel_rfl) ?_
  intro wz gz hI hg hb
  refine ⟨by kernel_rfl, av L, by kernel_rfl, HSz.out.trans z36_size.symm, av_one L, ?_⟩
  intro w1 R1 b2
  refine ⟨_, ⟨.bool ok, by kernel_rfl, rfl⟩, ?_⟩
  simp only [Act.put, List.setIfInBounds_toArray, List.set_cons_zero, List.set_cons_succ]
  have K0 := Lib.hid (K0.out.below b2)
  have K1 := Lib.hid (K1.out.below b2)
  have K2 := Lib.hid (K2.out.below b2)
  have HB : Hid (Below w.heap.size w w1) := Lib.hid (chain0 HB.out b2)
  clear b2 hI hg hb
  unfold ptr
  go_upto_region 2 with fail
  refine region_vb 37 z36 [(true, 0), (true, 2), (true, 4), (false, 1), (false, 3), (false, 5), (false, 6), (true, 7), (true, 8), (true, 9)] 10 11 9 [(12, 10, 30)] _ _ 29 z36_info (fun w => by kernel_rfl) (by kernel_rfl) rfl rfl (by kernel_rfl) rfl rfl rfl rfl rfl rfl rfl rfl (by decide) (of_decide_eq_true rfl) ?_
  refine chain_card 22 (g := w.heap.size) (off := 0) rfl rfl rfl _ rfl (by kernel_rfl) a (fun w' h => (K0.out.below h).cell) ?_
  refine chain_card 24 (g := w.heap.size + 1) (off := 0) rfl rfl rfl _ rfl (by kernel_rfl) b (fun w' h => (K1.out.below h).cell) ?_
  refine chain_card 26 (g := w.heap.size + 1 + 1) (off := 0) rfl rfl rfl _ rfl (by kernel_rfl) c (fun w' h => (K2.out.below h).cell) ?_
  refine chain_call 23 rfl rfl rfl (fun w => by kernel_rfl) (fun w0 h0 => to_a4 a w0) ?_
  refine chain_call 25 rfl rfl rfl (fun w => by kernel_rfl) (fun w0 h0 => to_a4 b w0) ?_
  refine chain_call 27 rfl rfl rfl (fun w => by kernel_rfl) (fun w0 h0 => to_a4 c w0) ?_
  refine chain_call 28 rfl rfl rfl (fun w => by kernel_rfl) (fun w0 h0 => HI.out w0) ?_
  refine chain_pure 21 (v := .tuple #[.agg (av L), .bool ok]) rfl rfl rfl (fun w => by kernel_rfl) ?_
  refine chain_pure 29 (v := .agg (av L)) rfl rfl rfl (fun w => by kernel_rfl) ?_
  refine chain_pure 30 (v := .bool ok) rfl rfl rfl (fun w => by kernel_rfl) ?_
  intro wz gz hI hg hb
  refine ⟨by kernel_rfl, av L, by kernel_rfl, HSz.out.trans z36_size.symm, av_one L, ?_⟩
  intro w2 R2 b2
  refine ⟨_, ⟨.bool ok, by kernel_rfl, rfl⟩, ?_⟩
  simp only [Act.put, List.setIfInBounds_toArray, List.set_cons_zero, List.set_cons_succ]
  have R1 := Lib.hid (VB.below R1.out b2)
  have HB : Hid (Below w.heap.size w w2) := Lib.hid (chain0 HB.out b2)
  clear b2 hI hg hb K0 K1 K2
  unfold ptr
  go_wp2_with (first | ((with_reducible refine take_s9 rfl _ rfl R1.out HSz.out ?_ ?_); rfl) | ((with_reducible refine take_s9 rfl _ rfl R2.out HSz.out ?_ ?_); rfl))
  refine (eq_a9 L _ HL.out).mono ?_
  rintro e w3 ⟨rfl, q⟩
  have HB := Lib.hid (chain0 HB.out q)
  clear q
  go_wp2_with fail
  go_ret
  exact ⟨rfl, HB.out⟩

theorem own : ownKnob Try.prog.godebug = none := by kernel_rfl
theorem laidOut : laidOutB Try.prog = true := by kernel_rfl
set_option maxRecDepth 100000 in
set_option maxHeartbeats 1000000 in
theorem lifted (os : Os) (started : os.Started) (H : Type) (enc : TypeId × Value → H) :
    ReturnsInHanded {} Try.checked os 7 .any (Rows.fnExactMagicSquareSpec.pre6 enc Try.prog Try.f7 Rows.fnExactMagicSquareRow.domain false) (Rows.fnExactMagicSquareSpec.post enc Try.prog Try.f7 false true false false) := by
  refine returnsInHanded_of_change (C := Try.checked) own started (by kernel_rfl) Try.func7
    (ChangeSpec.witness6 (enc := enc) (C := Try.checked) false ⟨#[], #[.agg #[.int .i64 0, .int .i64 0, .int .i64 0, .int .i64 0], .agg #[.int .i64 0, .int .i64 0, .int .i64 0, .int .i64 0], .agg #[.int .i64 0, .int .i64 0, .int .i64 0, .int .i64 0]], []⟩ 8 (by kernel_rfl) (by kernel_rfl) (by kernel_rfl) (by kernel_rfl)) ?_
  intro W base args ds gs before hval0 hW hcnd _
  have hval : ∀ (j : Nat) t v, Try.f7.params[j]? = some t → args[j]? = some v → Value.okWide Try.prog W .any base t v := hval0
  have hW' := hW
  obtain ⟨p, q, hA0, hV, rfl, hfz, hnd⟩ := hW
  have hA : DataW.TrodAll enc Try.prog W 0 (fun _ => true) true Try.f7.params.toList args.toList ds p := hA0
  rw [Try.params7] at hA hval
  have hR := fun (W' : World) (hb : Below W.heap.size W W') => frame.still_all laidOut hb _ _ _ _ (by decide +kernel) hA
  obtain ⟨v0, vs0, d0, ds0, p0, q0, hargs, rfl, hp, h0, r0⟩ := trodAll_cons hA
  obtain ⟨v1, vs1, d1, ds1, p1, q1, rfl, rfl, hp1, h1, r1⟩ := trodAll_cons r0
  obtain ⟨v2, vs2, d2, ds2, p2, q2, rfl, rfl, hp2, h2, r2⟩ := trodAll_cons r1
  obtain ⟨rfl, rfl, hpn⟩ := trodAll_nil r2
  obtain rfl : args = #[v0, v1, v2] := by cases args; simp_all
  obtain ⟨rfl, rfl⟩ := trodVars_none hV
  obtain ⟨a0, rfl⟩ := frame.open_a4 Try.underlying33 Try.underlying3 (by kernel_rfl) (by kernel_rfl) (hval 0 33 v0 rfl rfl) h0
  obtain ⟨a1, rfl⟩ := frame.open_a4 Try.underlying33 Try.underlying3 (by kernel_rfl) (by kernel_rfl) (hval 1 33 v1 rfl rfl) h1
  obtain ⟨a2, rfl⟩ := frame.open_a4 Try.underlying33 Try.underlying3 (by kernel_rfl) (by kernel_rfl) (hval 2 33 v2 rfl rfl) h2
  clear hA0 hval0
  simp only [List.append_nil] at hW'
  refine (walk a0 a1 a2 W ).mono fun e W' ⟨he, hw⟩ => ?_
  subst he
  exact ⟨_, rfl, _, _, _, [], p, [], hW', trodAll_mk1 (shut_bool Try.underlying4 _), hR W' hw, rfl, hw.frame _, fun h => by cases h⟩

theorem over : Rows.fnExactMagicSquareRow.holds Try.pinned (OpenSpec.ofChange Rows.fnExactMagicSquareSpec) :=
  OpenClaim.holds_of_wide 7 Try.f7 rfl rfl rfl rfl rfl rfl rfl ⟨rfl, rfl, rfl, rfl, rfl⟩ rfl rfl rfl rfl rfl (by kernel_rfl) Try.func7 (by kernel_rfl)
    (of_decide_eq_true (by kernel_rfl)) (by unfold Func.isWrapper; first | (rw [if_pos (by decide +kernel)]; kernel_rfl) | (rw [if_neg (by decide +kernel)]; exact ⟨rfl, rfl⟩))
    (fun os started H enc _ => lifted os started H enc)

theorem proved : Rows.FnExactMagicSquareSaid := over
end Go.Proofs.Ytdhcdogmbclhaaa.lawMagicSquare