/- FnExactSplitBy: for every list of cards and every weight, valid or not, the law returns true and its arguments read as before. No condition. -/
import Derived.Test.YtdhcdogmbclhaaaRows
import Derived.Test.YtdhcdogmbclhaaaFr
import Derived.Test.YtdhcdogmbclhaaaRx
import Derived.Test.YtdhcdogmbclhaaaOe
import Derived.Test.YtdhcdogmbclhaaaTn
namespace Go.Proofs.Ytdhcdogmbclhaaa.lawSplitBy
open Go.ChangeShapes Go.WideShapes Go.ChangeAt Go.RowKit
open Go.ChangeMaps (open_string shut_string)
open cards planes reg
set_option linter.unusedVariables false

set_option maxRecDepth 100000 in
set_option maxHeartbeats 1000000 in
theorem eq_a3 (f : Nat → Int) (w : World) :
    Calls Try.prog 42 #[.agg (q3 f), .agg (q3 f)] w fun e w' => e = .returned (.bool true) ∧ Below w.heap.size w w' := by
  have e0 : (f 0 != f 0) = false := by simp
  have e1 : (f 1 != f 1) = false := by simp
  have e2 : (f 2 != f 2) = false := by simp
  go_enter Try.func42, Try.ntmps42
  go_wp2
  refine wp_loop_rounds 4 ?_
  repeat (any_goals (rw [rounds_succ]; go_wp2; try (go_quiet (fail); go_wp2)))
  go_ret
  exact ⟨rfl, by repeat (first | with_reducible exact Below.refl _ _ | with_reducible exact HB.out | with_reducible apply Below.drew | with_reducible apply bdN | with_reducible refine Below.alloc ?_ (by first | exact Nat.le_refl _ | with_reducible exact HB.out.size | omega | (simp; done) | (simp; omega) | (have := HB.out.size; simp at *; omega)) _ | with_reducible refine Below.setCell ?_ (by first | exact Nat.le_refl _ | with_reducible exact HB.out.size | omega | (simp; done) | (simp; omega) | (have := HB.out.size; simp at *; omega)) _)⟩

set_option maxRecDepth 100000 in
set_option maxHeartbeats 4000000 in
theorem walk (p : Option Addr) (n cp : Nat) (l : List Cd) (c : Cd) (w : World) (hw : l.length = n ∧ n ≤ maxLen ∧ Rd w p (flat l)) :
    Calls Try.prog 12 #[.slice p n cp, c.val] w fun e w' => e = .returned (.bool true) ∧ Below w.heap.size w w' := by
  obtain ⟨hn, hm, hr⟩ := hw
  have HN := Lib.hid hn
  have HM := Lib.hid hm
  have HR := Lib.hid hr
  have HR0 := Lib.hid hr
  clear hn hm hr
  by_cases hs : n ≤ 1048576
  · obtain ⟨z0, z1⟩ := szLeft_yes hs
    obtain ⟨R, hR⟩ : ∃ R, sbR l c = R := ⟨_, rfl⟩
    have HS := fun p n c0 w a b d => spec_sb l c p n c0 w a b d
    have HI := fun p n c0 w a b d => impl_sb l c p n c0 w a b d
    rw [hR] at HS HI
    clear hR
    obtain ⟨f, ok⟩ := R
    have HS := Lib.hid HS
    have HI := Lib.hid HI
    dsimp only at HS HI
    have K0 : Hid (Box (w.alloc c.obj) w.heap.size c) := Lib.hid (Box.newAt rfl rfl)
    have HB : Hid (Below w.heap.size w (w.alloc c.obj)) := Lib.hid ((Below.refl _ _).alloc (Nat.le_refl _) _)
    go_enter Try.func12, Try.ntmps12
    go_upto_region 1 with fail
    have HR := Lib.hid (Rd.below HR.out HB.out)
    generalize w.alloc c.obj = W at *
    go_wp2_with fail
    refine (sz_hand p n cp 1048576 _ (by omega) (by omega) HM.out).mono ?_
    rintro e w' ⟨rfl, rfl⟩
    go_upto_region 5 with fail
    refine region_vb 46 (q3 z3) [(true, 0), (true, 2), (false, 1), (false, 3), (false, 4), (true, 5), (true, 6), (true, 7)] 8 9 6 [(10, 7, 23)] _ _ 22 (by kernel_rfl) (fun w => by kernel_rfl) (by kernel_rfl) rfl rfl (by kernel_rfl) rfl rfl rfl rfl rfl rfl rfl rfl (by decide) (of_decide_eq_true rfl) ?_
    refine chain_pure 17 (v := .slice p n cp) rfl rfl rfl (fun w => by kernel_rfl) ?_
    refine chain_card 19 (g := w.heap.size) (off := 0) rfl rfl rfl _ rfl (by kernel_rfl) c (fun w' h => (K0.out.below h).cell) ?_
    refine chain_callE 18 rfl rfl rfl (fun w => by kernel_rfl) (fun w0 h0 => (to_hand' l p n cp w0 HN.out (by omega) (Rd.below HR.out h0)).mono ?_)
    rintro e w2 ⟨p1, c1, rfl, o1, r1, hc1, b⟩
    refine ⟨_, rfl, b, fun w' => BI W w' ∧ Rd w' p1 (flat l), ⟨fun w' h => h.1, fun w' h => Below.size h.1, fun w' h => ⟨Below.alloc h.1 (Below.size h.1) _, h.2.alloc _⟩⟩, ⟨BI.next h0 b, r1⟩, ?_⟩
    clear o1 r1 hc1 b h0
    refine chain_callE 20 rfl rfl rfl (fun w => by kernel_rfl) (fun w0 h0 => (to_a4 c w0).mono ?_)
    rintro e w3 ⟨rfl, b⟩
    refine ⟨_, rfl, b, fun w' => BI W w' ∧ Rd w' p1 (flat l), ⟨fun w' h => h.1, fun w' h => Below.size h.1, fun w' h => ⟨Below.alloc h.1 (Below.size h.1) _, h.2.alloc _⟩⟩, ⟨BI.next h0.1 b, h0.2.below b⟩, ?_⟩
    clear b h0
    refine chain_callE 21 rfl rfl rfl (fun w => by kernel_rfl) (fun w0 h0 => (HS.out p1 n c1 w0 HN.out (by omega) h0.2).mono ?_)
    rintro e w4 ⟨rfl, b⟩
    refine ⟨_, rfl, b, BI W, clo_BI W _, BI.next h0.1 b, ?_⟩
    clear b h0
    refine chain_pure 16 (v := .tuple #[.agg (q3 f), .bool ok]) rfl rfl rfl (fun w => by kernel_rfl) ?_
    refine chain_pure 22 (v := .agg (q3 f)) rfl rfl rfl (fun w => by kernel_rfl) ?_
    refine chain_pure 23 (v := .bool ok) rfl rfl rfl (fun w => by kernel_rfl) ?_
    intro wz g1 hI hg hb
    refine ⟨by kernel_rfl, q3 f, by kernel_rfl, rfl, by simp [Value.oneCell'], ?_⟩
    intro w5 R1 b2
    refine ⟨_, ⟨.bool ok, by kernel_rfl, rfl⟩, ?_⟩
    simp only [Act.put, List.setIfInBounds_toArray, List.set_cons_zero, List.set_cons_succ]
    have K0 := Lib.hid (Box.below K0.out b2)
    have HB : Hid (Below w.heap.size w w5) := Lib.hid (chain0 HB.out b2)
    have HR := Lib.hid (Rd.below HR.out b2)
    clear b2 hI hg hb
    unfold ptr
    obtain ⟨k0a, k0b, k0c, k0d⟩ := K0.out.cell
    have k0z := K0.out.lt
    have Yw6K0 := Lib.hid K0.out.lt
    go_wp2_with fail
    refine ((to_hand' l p n cp _ HN.out (by omega) HR.out)).mono ?_
    rintro e w6 ⟨p2, c2, rfl, o2, r2, hc2, b⟩
    have Sw6 := Lib.hid b.size
    have L2 := Lib.hid o2.span
    have HB := Lib.hid (chain0 (w := w) (by repeat (first | with_reducible exact Below.refl _ _ | with_reducible exact HB.out | with_reducible apply Below.drew | with_reducible apply bdN | with_reducible refine Below.alloc ?_ (by first | exact Nat.le_refl _ | with_reducible exact HB.out.size | omega | (simp; done) | (simp; omega) | (have := HB.out.size; simp at *; omega)) _ | with_reducible refine Below.setCell ?_ (by first | exact Nat.le_refl _ | with_reducible exact HB.out.size | omega | (simp; done) | (simp; omega) | (have := HB.out.size; simp at *; omega)) _)) b)
    have Zw6 := Lib.hid HB.out.size
    have HR := Lib.hid (Rd.below (by repeat (first | with_reducible exact HR.out | with_reducible apply Rd.drewN | with_reducible apply Rd.drew | with_reducible apply Rd.alloc)) b)
    have R1 := Lib.hid (VB.below (by repeat (first | with_reducible exact R1.out | with_reducible apply VB.drewN | with_reducible apply VB.drew | with_reducible apply VB.alloc)) b)
    have K0 : Hid (Box _ (w.heap.size) (c)) := Lib.hid (Box.below (by repeat (first | with_reducible exact K0.out | with_reducible apply Box.drewN | with_reducible apply Box.drew | (with_reducible refine Box.newAt ?_ ?_ <;> first | (simp; done) | rfl) | with_reducible apply Box.alloc)) b)
    try clear k0a k0b k0c k0d k0z
    have k0z := K0.out.lt
    obtain ⟨k0a, k0b, k0c, k0d⟩ := K0.out.cell
    have O2 := Lib.hid o2
    have R2 := Lib.hid r2
    clear b o2 r2
    go_wp2_with fail
    refine ((to_a4 c _)).mono ?_
    rintro e w7 ⟨rfl, b⟩
    have Sw7 := Lib.hid b.size
    have HB := Lib.hid (chain0 (w := w) (by repeat (first | with_reducible exact Below.refl _ _ | with_reducible exact HB.out | with_reducible apply Below.drew | with_reducible apply bdN | with_reducible refine Below.alloc ?_ (by first | exact Nat.le_refl _ | with_reducible exact HB.out.size | omega | (simp; done) | (simp; omega) | (have := HB.out.size; simp at *; omega)) _ | with_reducible refine Below.setCell ?_ (by first | exact Nat.le_refl _ | with_reducible exact HB.out.size | omega | (simp; done) | (simp; omega) | (have := HB.out.size; simp at *; omega)) _)) b)
    have HR := Lib.hid (Rd.below (by repeat (first | with_reducible exact HR.out | with_reducible apply Rd.drewN | with_reducible apply Rd.drew | with_reducible apply Rd.alloc)) b)
    have R1 := Lib.hid (VB.below (by repeat (first | with_reducible exact R1.out | with_reducible apply VB.drewN | with_reducible apply VB.drew | with_reducible apply VB.alloc)) b)
    have O2 := Lib.hid (Own.below (by repeat (first | with_reducible exact O2.out | with_reducible apply Own.drewN | with_reducible apply Own.drew | with_reducible apply Own.alloc)) b)
    have R2 := Lib.hid (Rd.below (by repeat (first | with_reducible exact R2.out | with_reducible apply Rd.drewN | with_reducible apply Rd.drew | with_reducible apply Rd.alloc)) b)
    have K0 : Hid (Box _ (w.heap.size) (c)) := Lib.hid (Box.below (by repeat (first | with_reducible exact K0.out | with_reducible apply Box.drewN | with_reducible apply Box.drew | (with_reducible refine Box.newAt ?_ ?_ <;> first | (simp; done) | rfl) | with_reducible apply Box.alloc)) b)
    try clear k0a k0b k0c k0d k0z
    have k0z := K0.out.lt
    obtain ⟨k0a, k0b, k0c, k0d⟩ := K0.out.cell
    clear b
    go_wp2_with fail
    refine ((HI.out p2 n c2 _ HN.out (by omega) R2.out)).mono ?_
    rintro e w8 ⟨rfl, b⟩
    have Sw8 := Lib.hid b.size
    have HB := Lib.hid (chain0 (w := w) (by repeat (first | with_reducible exact Below.refl _ _ | with_reducible exact HB.out | with_reducible apply Below.drew | with_reducible apply bdN | with_reducible refine Below.alloc ?_ (by first | exact Nat.le_refl _ | with_reducible exact HB.out.size | omega | (simp; done) | (simp; omega) | (have := HB.out.size; simp at *; omega)) _ | with_reducible refine Below.setCell ?_ (by first | exact Nat.le_refl _ | with_reducible exact HB.out.size | omega | (simp; done) | (simp; omega) | (have := HB.out.size; simp at *; omega)) _)) b)
    have HR := Lib.hid (Rd.below (by repeat (first | with_reducible exact HR.out | with_reducible apply Rd.drewN | with_reducible apply Rd.drew | with_reducible apply Rd.alloc)) b)
    have R1 := Lib.hid (VB.below (by repeat (first | with_reducible exact R1.out | with_reducible apply VB.drewN | with_reducible apply VB.drew | with_reducible apply VB.alloc)) b)
    have O2 := Lib.hid (Own.below (by repeat (first | with_reducible exact O2.out | with_reducible apply Own.drewN | with_reducible apply Own.drew | with_reducible apply Own.alloc)) b)
    have R2 := Lib.hid (Rd.below (by repeat (first | with_reducible exact R2.out | with_reducible apply Rd.drewN | with_reducible apply Rd.drew | with_reducible apply Rd.alloc)) b)
    have K0 : Hid (Box _ (w.heap.size) (c)) := Lib.hid (Box.below (by repeat (first | with_reducible exact K0.out | with_reducible apply Box.drewN | with_reducible apply Box.drew | (with_reducible refine Box.newAt ?_ ?_ <;> first | (simp; done) | rfl) | with_reducible apply Box.alloc)) b)
    try clear k0a k0b k0c k0d k0z
    have k0z := K0.out.lt
    obtain ⟨k0a, k0b, k0c, k0d⟩ := K0.out.cell
    clear b
    have S1 : Hid (VB (w8.alloc (.cells (q3 f) 46)) w8.heap.size 46 (q3 f)) := Lib.hid (VB.newAt rfl rfl)
    have HB2 := Lib.hid (HB.out.alloc HB.out.size (.cells (q3 f) 46))
    have HR2 := Lib.hid (HR.out.alloc (.cells (q3 f) 46))
    have R22 := Lib.hid (R2.out.alloc (.cells (q3 f) 46))
    have R12 := Lib.hid (R1.out.alloc (.cells (q3 f) 46))
    clear HB HR R2 R1 K0 k0a k0b k0c k0d k0z O2 L2 Zw6
    go_upto_region 8 with fail
    have HB := HB2
    have HR := HR2
    have R2 := R22
    have R1 := R12
    clear HB2 HR2 R22 R12
    generalize hg8 : w8.heap.size = g8 at *
    clear hg8
    generalize w8.alloc (.cells (q3 f) 46) = W8 at *
    go_wp2_with (first | ((with_reducible refine take_q3 rfl _ rfl R1.out ?_ ?_); rfl) | ((with_reducible refine take_q3 rfl _ rfl S1.out ?_ ?_); rfl))
    go_wp2_with fail
    refine ((eq_a3 f _)).mono ?_
    rintro e w9 ⟨rfl, b⟩
    have Sw9 := Lib.hid b.size
    have HB := Lib.hid (chain0 (w := w) (by repeat (first | with_reducible exact Below.refl _ _ | with_reducible exact HB.out | with_reducible apply Below.drew | with_reducible apply bdN | with_reducible refine Below.alloc ?_ (by first | exact Nat.le_refl _ | with_reducible exact HB.out.size | omega | (simp; done) | (simp; omega) | (have := HB.out.size; simp at *; omega)) _ | with_reducible refine Below.setCell ?_ (by first | exact Nat.le_refl _ | with_reducible exact HB.out.size | omega | (simp; done) | (simp; omega) | (have := HB.out.size; simp at *; omega)) _)) b)
    have HR := Lib.hid (Rd.below (by repeat (first | with_reducible exact HR.out | with_reducible apply Rd.drewN | with_reducible apply Rd.drew | with_reducible apply Rd.alloc)) b)
    have R2 := Lib.hid (Rd.below (by repeat (first | with_reducible exact R2.out | with_reducible apply Rd.drewN | with_reducible apply Rd.drew | with_reducible apply Rd.alloc)) b)
    clear b
    go_wp2_with fail
    refine ((to_hand' l p n cp _ HN.out (by omega) HR.out)).mono ?_
    rintro e w10 ⟨p3, c3, rfl, o3, r3, hc3, b⟩
    have Sw10 := Lib.hid b.size
    have L3 := Lib.hid o3.span
    have HB := Lib.hid (chain0 (w := w) (by repeat (first | with_reducible exact Below.refl _ _ | with_reducible exact HB.out | with_reducible apply Below.drew | with_reducible apply bdN | with_reducible refine Below.alloc ?_ (by first | exact Nat.le_refl _ | with_reducible exact HB.out.size | omega | (simp; done) | (simp; omega) | (have := HB.out.size; simp at *; omega)) _ | with_reducible refine Below.setCell ?_ (by first | exact Nat.le_refl _ | with_reducible exact HB.out.size | omega | (simp; done) | (simp; omega) | (have := HB.out.size; simp at *; omega)) _)) b)
    have Zw10 := Lib.hid HB.out.size
    have HR := Lib.hid (Rd.below (by repeat (first | with_reducible exact HR.out | with_reducible apply Rd.drewN | with_reducible apply Rd.drew | with_reducible apply Rd.alloc)) b)
    have R2 := Lib.hid (Rd.below (by repeat (first | with_reducible exact R2.out | with_reducible apply Rd.drewN | with_reducible apply Rd.drew | with_reducible apply Rd.alloc)) b)
    have O3 := Lib.hid o3
    have R3 := Lib.hid r3
    clear b o3 r3
    go_wp2_with fail
    refine ((eq_hand l p2 p3 n c2 c3 _ HN.out (by omega) R2.out R3.out)).mono ?_
    rintro e w11 ⟨rfl, b⟩
    have Sw11 := Lib.hid b.size
    have HB := Lib.hid (chain0 (w := w) (by repeat (first | with_reducible exact Below.refl _ _ | with_reducible exact HB.out | with_reducible apply Below.drew | with_reducible apply bdN | with_reducible refine Below.alloc ?_ (by first | exact Nat.le_refl _ | with_reducible exact HB.out.size | omega | (simp; done) | (simp; omega) | (have := HB.out.size; simp at *; omega)) _ | with_reducible refine Below.setCell ?_ (by first | exact Nat.le_refl _ | with_reducible exact HB.out.size | omega | (simp; done) | (simp; omega) | (have := HB.out.size; simp at *; omega)) _)) b)
    have HR := Lib.hid (Rd.below (by repeat (first | with_reducible exact HR.out | with_reducible apply Rd.drewN | with_reducible apply Rd.drew | with_reducible apply Rd.alloc)) b)
    have R2 := Lib.hid (Rd.below (by repeat (first | with_reducible exact R2.out | with_reducible apply Rd.drewN | with_reducible apply Rd.drew | with_reducible apply Rd.alloc)) b)
    have O3 := Lib.hid (Own.below (by repeat (first | with_reducible exact O3.out | with_reducible apply Own.drewN | with_reducible apply Own.drew | with_reducible apply Own.alloc)) b)
    have R3 := Lib.hid (Rd.below (by repeat (first | with_reducible exact R3.out | with_reducible apply Rd.drewN | with_reducible apply Rd.drew | with_reducible apply Rd.alloc)) b)
    clear b
    go_wp2_with fail
    go_ret
    exact ⟨rfl, by repeat (first | with_reducible exact Below.refl _ _ | with_reducible exact HB.out | with_reducible apply Below.drew | with_reducible apply bdN | with_reducible refine Below.alloc ?_ (by first | exact Nat.le_refl _ | with_reducible exact HB.out.size | omega | (simp; done) | (simp; omega) | (have := HB.out.size; simp at *; omega)) _ | with_reducible refine Below.setCell ?_ (by first | exact Nat.le_refl _ | with_reducible exact HB.out.size | omega | (simp; done) | (simp; omega) | (have := HB.out.size; simp at *; omega)) _)⟩
  · have z0 := szLeft_no hs
    go_enter Try.func12, Try.ntmps12
    go_wp2_with fail
    refine (sz_hand p n cp 1048576 _ (by omega) (by omega) HM.out).mono ?_
    rintro e w' ⟨rfl, rfl⟩
    go_wp2_with fail
    go_ret
    exact ⟨rfl, by repeat (first | with_reducible exact Below.refl _ _ | with_reducible exact HB.out | with_reducible apply Below.drew | with_reducible apply bdN | with_reducible refine Below.alloc ?_ (by first | exact Nat.le_refl _ | with_reducible exact HB.out.size | omega | (simp; done) | (simp; omega) | (have := HB.out.size; simp at *; omega)) _ | with_reducible refine Below.setCell ?_ (by first | exact Nat.le_refl _ | with_reducible exact HB.out.size | omega | (simp; done) | (simp; omega) | (have := HB.out.size; simp at *; omega)) _)⟩

theorem own : ownKnob Try.prog.godebug = none := by kernel_rfl
theorem laidOut : laidOutB Try.prog = true := by kernel_rfl
set_option maxRecDepth 100000 in
set_option maxHeartbeats 1000000 in
theorem lifted (os : Os) (started : os.Started) (H : Type) (enc : TypeId × Value → H) :
    ReturnsInHanded {} Try.checked os 12 .any (Rows.fnExactSplitBySpec.pre6 enc Try.prog Try.f12 Rows.fnExactSplitByRow.domain false) (Rows.fnExactSplitBySpec.post enc Try.prog Try.f12 false true false false) := by
  refine returnsInHanded_of_change (C := Try.checked) own started (by kernel_rfl) Try.func12
    (ChangeSpec.witness6 (enc := enc) (C := Try.checked) false ⟨#[], #[.slice none 0 0, .agg #[.int .i64 0, .int .i64 0, .int .i64 0, .int .i64 0]], []⟩ 8 (by kernel_rfl) (by kernel_rfl) (by kernel_rfl) (by kernel_rfl)) ?_
  intro W base args ds gs before hval0 hW hcnd _
  have hval : ∀ (j : Nat) t v, Try.f12.params[j]? = some t → args[j]? = some v → Value.okWide Try.prog W .any base t v := hval0
  have hW' := hW
  obtain ⟨p, q, hA0, hV, rfl, hfz, hnd⟩ := hW
  have hA : DataW.TrodAll enc Try.prog W 0 (fun _ => true) true Try.f12.params.toList args.toList ds p := hA0
  rw [Try.params12] at hA hval
  have hR := fun (W' : World) (hb : Below W.heap.size W W') => frame.still_all laidOut hb _ _ _ _ (by decide +kernel) hA
  obtain ⟨v0, vs0, d0, ds0, p0, q0, hargs, rfl, hp, h0, r0⟩ := trodAll_cons hA
  obtain ⟨v1, vs1, d1, ds1, p1, q1, rfl, rfl, hp1, h1, r1⟩ := trodAll_cons r0
  obtain ⟨rfl, rfl, hpn⟩ := trodAll_nil r1
  obtain rfl : args = #[v0, v1] := by cases args; simp_all
  obtain ⟨rfl, rfl⟩ := trodVars_none hV
  obtain ⟨b0, n0, c0, l0, rfl, w0⟩ := frame.open_hand Try.underlying22 Try.underlying33 Try.underlying3 (by kernel_rfl) (by kernel_rfl) (hval 0 22 v0 rfl rfl) h0
  obtain ⟨a1, rfl⟩ := frame.open_a4 Try.underlying33 Try.underlying3 (by kernel_rfl) (by kernel_rfl) (hval 1 33 v1 rfl rfl) h1
  clear hA0 hval0
  simp only [List.append_nil] at hW'
  refine (walk b0 n0 c0 l0 a1 W w0).mono fun e W' ⟨he, hw⟩ => ?_
  subst he
  exact ⟨_, rfl, _, _, _, [], p, [], hW', trodAll_mk1 (shut_bool Try.underlying4 _), hR W' hw, rfl, hw.frame _, fun h => by cases h⟩

theorem over : Rows.fnExactSplitByRow.holds Try.pinned (OpenSpec.ofChange Rows.fnExactSplitBySpec) :=
  OpenClaim.holds_of_wide 12 Try.f12 rfl rfl rfl rfl rfl rfl rfl ⟨rfl, rfl, rfl, rfl, rfl⟩ rfl rfl rfl rfl rfl (by kernel_rfl) Try.func12 (by kernel_rfl)
    (of_decide_eq_true (by kernel_rfl)) (by unfold Func.isWrapper; first | (rw [if_pos (by decide +kernel)]; kernel_rfl) | (rw [if_neg (by decide +kernel)]; exact ⟨rfl, rfl⟩))
    (fun os started H enc _ => lifted os started H enc)

theorem proved : Rows.FnExactSplitBySaid := over
end Go.Proofs.Ytdhcdogmbclhaaa.lawSplitBy