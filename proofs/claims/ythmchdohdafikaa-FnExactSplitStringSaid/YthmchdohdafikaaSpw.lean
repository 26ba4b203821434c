/- FnExactSplitString: for every two texts the law returns true. No condition. -/
import Derived.Test.YthmchdohdafikaaSpl
import Derived.Test.YthmchdohdafikaaMs
import Derived.ShutString
namespace Go.Proofs.Ythmchdohdafikaa.splitString
open Go.ChangeShapes Go.WideShapes Go.ChangeAt Go.RowKit
open Go.ChangeMaps (open_string shut_string)
set_option linter.unusedVariables false

theorem own : ownKnob Try.prog.godebug = none := by kernel_rfl

set_option maxHeartbeats 1000000 in
theorem walk (s sep : ByteArray) (w : World) (ha : s.size ≤ maxLen) (hb : sep.size ≤ maxLen) :
    Calls Try.prog 4 #[.string s, .string sep] w fun e w' => e = .returned (.bool true) ∧ Below w.heap.size w w' := by
  by_cases hs : s.size ≤ 1048576
  · by_cases h2 : sep.size ≤ 1048576
    · obtain ⟨xs, ok, hlen, hI, hS⟩ := spl.both s sep hs h2
      have HI := Lib.hid hI
      have HS := Lib.hid hS
      clear hI hS ha hb
      go_enter Try.func4, Try.ntmps4
      go_wp2_with fail
      refine (HS.out w).mono ?_
      rintro e w1 ⟨vw, rfl, oW, b1⟩
      have OW1 := Lib.hid oW
      have B1 := Lib.hid b1
      clear oW b1
      go_wp2_with fail
      refine (HI.out w1).mono ?_
      rintro e w2 ⟨vg, rfl, oG, b2⟩
      have OG2 := Lib.hid oG
      have B2 := Lib.hid b2
      have OW2 := Lib.hid (ms.own_below OW1.out b2)
      clear oG b2
      go_wp2_with fail
      refine (ms.eq_any xs vg vw _ _ w2 (by omega) OG2.out OW2.out).mono ?_
      rintro e w2' ⟨rfl, j, rfl⟩
      have D2 := Lib.hid (Joins.below_draws w2.heap.size w2 j)
      go_wp2_with fail
      refine (ms.mark_any xs vg w1.heap.size 1 (w2.drewN j) (by omega) (by omega) B2.out.size (ms.own_below OG2.out D2.out)).mono ?_
      rintro e w3 ⟨rfl, oG, b3⟩
      have OG3 := Lib.hid oG
      have B3 := Lib.hid b3
      have OW3 := Lib.hid (ms.own_below_of (ms.own_below OW2.out D2.out) (fun g e => (OW1.out.lt g e).2) B2.out.size b3)
      clear oG b3
      go_wp2_with fail
      refine (ms.held_any xs.length vg _ 1 w3 (by omega) (by omega) OG3.out).mono ?_
      rintro e w4 ⟨rfl, b4⟩
      have B4 := Lib.hid b4
      have OG4 := Lib.hid (ms.own_below OG3.out b4)
      have OW4 := Lib.hid (ms.own_below OW3.out b4)
      clear b4
      go_wp2_with fail
      refine (HI.out w4).mono ?_
      rintro e w5 ⟨vh, rfl, oH, b5⟩
      have OH5 := Lib.hid oH
      have B5 := Lib.hid b5
      have OG5 := Lib.hid (ms.own_below OG4.out b5)
      have OW5 := Lib.hid (ms.own_below OW4.out b5)
      clear oH b5
      go_wp2_with fail
      refine (ms.eq_any xs vh vw _ _ w5 (by omega) OH5.out OW5.out).mono ?_
      rintro e w5' ⟨rfl, i, rfl⟩
      have D5 := Lib.hid (Joins.below_draws w5.heap.size w5 i)
      go_wp2_with fail
      refine (ms.held_any xs.length vg _ 1 (w5.drewN i) (by omega) (by omega) (ms.own_below OG5.out D5.out)).mono ?_
      rintro e w6 ⟨rfl, b6⟩
      have B6 := Lib.hid b6
      clear b6
      go_wp2_with fail
      go_ret
      refine ⟨rfl, ?_⟩
      have q1 := B1.out
      have q2 := B2.out
      have q3 : Below w1.heap.size w2 w3 := (D2.out.mono q2.size).trans B3.out
      have q4 := B4.out
      have q5 := B5.out
      have q6 : Below w5.heap.size w5 w6 := D5.out.trans B6.out
      exact ms.chain6 q1 q2 q3 q4 q5 q6
    · unfold maxLen at ha hb
      go_enter Try.func4, Try.ntmps4
      go_wp2_with fail
      go_ret
      exact ⟨rfl, Below.refl _ _⟩
  · unfold maxLen at ha
    go_enter Try.func4, Try.ntmps4
    go_wp2_with fail
    go_ret
    exact ⟨rfl, Below.refl _ _⟩


set_option maxRecDepth 100000 in
theorem lifted (os : Os) (started : os.Started) (H : Type) (enc : TypeId × Value → H) :
    ReturnsInHanded {} Try.checked os 4 .any (Rows.fnExactSplitStringSpec.pre6 enc Try.prog Try.f4 Rows.fnExactSplitStringRow.domain false) (Rows.fnExactSplitStringSpec.post enc Try.prog Try.f4 false true false false) := by
  refine returnsInHanded_of_change (C := Try.checked) own started (by kernel_rfl) Try.func4
    (ChangeSpec.witness6 (enc := enc) (C := Try.checked) false ⟨#[], #[.string ⟨#[]⟩, .string ⟨#[]⟩], []⟩ 8 (by kernel_rfl) (by kernel_rfl) (by kernel_rfl) (by kernel_rfl)) ?_
  intro W base args ds gs before hval0 hW hcnd _
  have hval : ∀ (j : Nat) t v, Try.f4.params[j]? = some t → args[j]? = some v → Value.okWide Try.prog W .any base t v := hval0
  have hW' := hW
  obtain ⟨p, q, hA0, hV, rfl, hfz, hnd⟩ := hW
  have hA : DataW.TrodAll enc Try.prog W 0 (fun _ => true) true Try.f4.params.toList args.toList ds p := hA0
  rw [Try.params4] at hA hval
  obtain ⟨v0, vs0, d0, ds0, p0, q0, hargs, rfl, rfl, h0, r0⟩ := trodAll_cons hA
  obtain ⟨v1, vs1, d1, ds1, p1, q1, rfl, rfl, rfl, h1, r1⟩ := trodAll_cons r0
  obtain ⟨rfl, rfl, rfl⟩ := trodAll_nil r1
  obtain rfl : args = #[v0, v1] := by cases args; simp_all
  obtain ⟨rfl, rfl⟩ := trodVars_none hV
  obtain ⟨a0, rfl, rfl, rfl, w0⟩ := open_string Try.underlying9 (hval 0 9 v0 rfl rfl) h0
  obtain ⟨a1, rfl, rfl, rfl, w1⟩ := open_string Try.underlying9 (hval 1 9 v1 rfl rfl) h1
  clear hA0 hval0
  simp only [List.append_nil] at hW'
  refine (walk a0 a1 W w0 w1).mono fun e W' ⟨he, hw⟩ => ?_
  subst he
  exact ⟨_, rfl, _, _, _, [], _, [], hW', trodAll_mk1 (shut_bool Try.underlying4 _), (trodAll_cons_mk (shut_string Try.underlying9 w0) (trodAll_cons_mk (shut_string Try.underlying9 w1) trodAll_mk0)), rfl, hw.frame _, fun h => by cases h⟩

theorem over : Rows.fnExactSplitStringRow.holds Try.pinned (OpenSpec.ofChange Rows.fnExactSplitStringSpec) :=
  OpenClaim.holds_of_wide 4 Try.f4 rfl rfl rfl rfl rfl rfl rfl ⟨rfl, rfl, rfl, rfl, rfl⟩ rfl rfl rfl rfl rfl (by kernel_rfl) Try.func4 (by kernel_rfl)
    (of_decide_eq_true (by kernel_rfl)) (by unfold Func.isWrapper; first | (rw [if_pos (by decide +kernel)]; kernel_rfl) | (rw [if_neg (by decide +kernel)]; exact ⟨rfl, rfl⟩))
    (fun os started H enc _ => lifted os started H enc)

theorem proved : Rows.FnExactSplitStringSaid := over
end Go.Proofs.Ythmchdohdafikaa.splitString
