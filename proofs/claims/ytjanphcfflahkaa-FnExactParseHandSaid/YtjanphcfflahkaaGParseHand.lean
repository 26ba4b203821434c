/- FnExactParseHand: for every text the law returns true. No condition. -/
import Derived.Test.YtjanphcfflahkaaRows
import Derived.Test.YtjanphcfflahkaaFr
import Derived.Test.YtjanphcfflahkaaGParseHand0
namespace Go.Proofs.Ytjanphcfflahkaa.lawParseHand
open Go.ChangeShapes Go.WideShapes Go.ChangeAt Go.RowKit
open Go.ChangeMaps (open_string shut_string)
open cards
set_option linter.unusedVariables false

set_option maxRecDepth 100000 in
set_option maxHeartbeats 2000000 in
theorem walk (s : ByteArray) (w : World) (hw : s.size ≤ maxLen) :
    Calls Try.prog 6 #[.string s] w fun e w' => e = .returned (.bool true) ∧ Below w.heap.size w w' := by
  unfold maxLen at hw
  by_cases hs : s.size ≤ 1048576
  · have HL : Hid ((phR s).1.length ≤ 100000000) := Nat.le_trans (ph_len s) (by omega)
    have HS := Lib.hid (fun w => spec_ph s w hs)
    have HI := Lib.hid (fun w => impl_ph s w hs)
    obtain ⟨R, hR⟩ : ∃ R, (phR s).1 = R := ⟨_, rfl⟩
    obtain ⟨ok, hok⟩ : ∃ ok, (phR s).2 = ok := ⟨_, rfl⟩
    rw [hR] at HL HS HI
    rw [hok] at HS HI
    clear hR hok
    obtain ⟨m, hm⟩ : ∃ m, R.length = m := ⟨_, rfl⟩
    have HMm := Lib.hid hm
    rw [hm] at HL
    clear hm hw
    go_enter Try.func6, Try.ntmps6
    go_wp2_with fail
    refine ((HS.out _)).mono ?_
    rintro e w2 ⟨va, rfl, oa, b⟩
    obtain ⟨pa, ca, rfl, hca, ra, _⟩ := oa.form
    rw [HMm.out] at oa hca ⊢
    have Sw2 := Lib.hid b.size
    have La := Lib.hid oa.span
    have HB := Lib.hid (chain0 (w := w) (by repeat (first | with_reducible exact Below.refl _ _ | with_reducible exact HB.out | with_reducible apply Below.drew | with_reducible apply bdN | with_reducible refine Below.alloc ?_ (by first | exact Nat.le_refl _ | with_reducible exact HB.out.size | omega | (simp; done) | (simp; omega) | (have := HB.out.size; simp at *; omega)) _ | with_reducible refine Below.setCell ?_ (by first | exact Nat.le_refl _ | with_reducible exact HB.out.size | omega | (simp; done) | (simp; omega) | (have := HB.out.size; simp at *; omega)) _)) b)
    have Zw2 := Lib.hid HB.out.size
    have Oa := Lib.hid oa
    have Ra := Lib.hid ra
    clear b oa ra
    go_wp2_with fail
    refine ((HI.out _)).mono ?_
    rintro e w4 ⟨vb, rfl, ob, b⟩
    obtain ⟨pb, cb, rfl, hcb, rb, _⟩ := ob.form
    rw [HMm.out] at ob hcb ⊢
    have Sw4 := Lib.hid b.size
    have Lb := Lib.hid ob.span
    have HB := Lib.hid (chain0 (w := w) (by repeat (first | with_reducible exact Below.refl _ _ | with_reducible exact HB.out | with_reducible apply Below.drew | with_reducible apply bdN | with_reducible refine Below.alloc ?_ (by first | exact Nat.le_refl _ | with_reducible exact HB.out.size | omega | (simp; done) | (simp; omega) | (have := HB.out.size; simp at *; omega)) _ | with_reducible refine Below.setCell ?_ (by first | exact Nat.le_refl _ | with_reducible exact HB.out.size | omega | (simp; done) | (simp; omega) | (have := HB.out.size; simp at *; omega)) _)) b)
    have Zw4 := Lib.hid HB.out.size
    have Oa := Lib.hid (cards.Own.below (by repeat (first | with_reducible exact Oa.out | with_reducible apply cards.Own.drewN | with_reducible apply cards.Own.drew | with_reducible apply cards.Own.alloc)) b)
    have Ra := Lib.hid (Rd.below (by repeat (first | with_reducible exact Ra.out | with_reducible apply Rd.drewN | with_reducible apply Rd.drew | with_reducible apply Rd.alloc)) b)
    have Ob := Lib.hid ob
    have Rb := Lib.hid rb
    clear b ob rb
    go_wp2_with fail
    refine ((eq_hand R pb pa m cb ca _ HMm.out (by have := HL.out; omega) Rb.out Ra.out)).mono ?_
    rintro e w5 ⟨rfl, b⟩
    have Sw5 := Lib.hid b.size
    have HB := Lib.hid (chain0 (w := w) (by repeat (first | with_reducible exact Below.refl _ _ | with_reducible exact HB.out | with_reducible apply Below.drew | with_reducible apply bdN | with_reducible refine Below.alloc ?_ (by first | exact Nat.le_refl _ | with_reducible exact HB.out.size | omega | (simp; done) | (simp; omega) | (have := HB.out.size; simp at *; omega)) _ | with_reducible refine Below.setCell ?_ (by first | exact Nat.le_refl _ | with_reducible exact HB.out.size | omega | (simp; done) | (simp; omega) | (have := HB.out.size; simp at *; omega)) _)) b)
    have Oa := Lib.hid (cards.Own.below (by repeat (first | with_reducible exact Oa.out | with_reducible apply cards.Own.drewN | with_reducible apply cards.Own.drew | with_reducible apply cards.Own.alloc)) b)
    have Ra := Lib.hid (Rd.below (by repeat (first | with_reducible exact Ra.out | with_reducible apply Rd.drewN | with_reducible apply Rd.drew | with_reducible apply Rd.alloc)) b)
    have Ob := Lib.hid (cards.Own.below (by repeat (first | with_reducible exact Ob.out | with_reducible apply cards.Own.drewN | with_reducible apply cards.Own.drew | with_reducible apply cards.Own.alloc)) b)
    have Rb := Lib.hid (Rd.below (by repeat (first | with_reducible exact Rb.out | with_reducible apply Rd.drewN | with_reducible apply Rd.drew | with_reducible apply Rd.alloc)) b)
    clear b
    go_wp2_with fail
    refine ((mark_hand R (.slice pb m cb) _ 1 m _ HMm.out (by have := HL.out; omega) (by have := Sw4.out; have := Sw5.out; omega) Ob.out)).mono ?_
    rintro e w10 ⟨rfl, oM, gM⟩
    have Sw10 := Lib.hid gM.size
    have HB := Lib.hid (Below.grown HB.out gM HB.out.size (fun k hk => Nat.le_trans (by have h0 := Zw2.out; have h1 := Sw2.out; have h2 := Zw4.out; have h3 := Sw4.out; have h4 := Sw5.out; first | omega | (simp at *; omega)) (Lb.out k hk).1))
    have Oa := Lib.hid (cards.Own.stay Oa.out gM La.out Lb.out (by have h0 := Zw2.out; have h1 := Sw2.out; have h2 := Zw4.out; have h3 := Sw4.out; have h4 := Sw5.out; first | omega | (simp at *; omega)))
    have Ob := Lib.hid oM
    have Ra := Lib.hid (cards.Own.rd Oa.out)
    clear oM gM
    go_wp2_with fail
    refine ((held_hand (.slice pb m cb) _ 1 m _ (by have := HL.out; omega) Ob.out)).mono ?_
    rintro e w11 ⟨rfl, b⟩
    have Sw11 := Lib.hid b.size
    have HB := Lib.hid (chain0 (w := w) (by repeat (first | with_reducible exact Below.refl _ _ | with_reducible exact HB.out | with_reducible apply Below.drew | with_reducible apply bdN | with_reducible refine Below.alloc ?_ (by first | exact Nat.le_refl _ | with_reducible exact HB.out.size | omega | (simp; done) | (simp; omega) | (have := HB.out.size; simp at *; omega)) _ | with_reducible refine Below.setCell ?_ (by first | exact Nat.le_refl _ | with_reducible exact HB.out.size | omega | (simp; done) | (simp; omega) | (have := HB.out.size; simp at *; omega)) _)) b)
    have Oa := Lib.hid (cards.Own.below (by repeat (first | with_reducible exact Oa.out | with_reducible apply cards.Own.drewN | with_reducible apply cards.Own.drew | with_reducible apply cards.Own.alloc)) b)
    have Ob := Lib.hid (cards.Own.below (by repeat (first | with_reducible exact Ob.out | with_reducible apply cards.Own.drewN | with_reducible apply cards.Own.drew | with_reducible apply cards.Own.alloc)) b)
    have Ra := Lib.hid (Rd.below (by repeat (first | with_reducible exact Ra.out | with_reducible apply Rd.drewN | with_reducible apply Rd.drew | with_reducible apply Rd.alloc)) b)
    clear b
    go_wp2_with fail
    refine ((HI.out _)).mono ?_
    rintro e w13 ⟨vc, rfl, oc, b⟩
    obtain ⟨pc, cc, rfl, hcc, rc, _⟩ := oc.form
    rw [HMm.out] at oc hcc ⊢
    have Sw13 := Lib.hid b.size
    have Lc := Lib.hid oc.span
    have HB := Lib.hid (chain0 (w := w) (by repeat (first | with_reducible exact Below.refl _ _ | with_reducible exact HB.out | with_reducible apply Below.drew | with_reducible apply bdN | with_reducible refine Below.alloc ?_ (by first | exact Nat.le_refl _ | with_reducible exact HB.out.size | omega | (simp; done) | (simp; omega) | (have := HB.out.size; simp at *; omega)) _ | with_reducible refine Below.setCell ?_ (by first | exact Nat.le_refl _ | with_reducible exact HB.out.size | omega | (simp; done) | (simp; omega) | (have := HB.out.size; simp at *; omega)) _)) b)
    have Zw13 := Lib.hid HB.out.size
    have Oa := Lib.hid (cards.Own.below (by repeat (first | with_reducible exact Oa.out | with_reducible apply cards.Own.drewN | with_reducible apply cards.Own.drew | with_reducible apply cards.Own.alloc)) b)
    have Ob := Lib.hid (cards.Own.below (by repeat (first | with_reducible exact Ob.out | with_reducible apply cards.Own.drewN | with_reducible apply cards.Own.drew | with_reducible apply cards.Own.alloc)) b)
    have Ra := Lib.hid (Rd.below (by repeat (first | with_reducible exact Ra.out | with_reducible apply Rd.drewN | with_reducible apply Rd.drew | with_reducible apply Rd.alloc)) b)
    have Oc := Lib.hid oc
    have Rc := Lib.hid rc
    clear b oc rc
    go_wp2_with fail
    refine ((eq_hand R pc pa m cc ca _ HMm.out (by have := HL.out; omega) Rc.out Ra.out)).mono ?_
    rintro e w14 ⟨rfl, b⟩
    have Sw14 := Lib.hid b.size
    have HB := Lib.hid (chain0 (w := w) (by repeat (first | with_reducible exact Below.refl _ _ | with_reducible exact HB.out | with_reducible apply Below.drew | with_reducible apply bdN | with_reducible refine Below.alloc ?_ (by first | exact Nat.le_refl _ | with_reducible exact HB.out.size | omega | (simp; done) | (simp; omega) | (have := HB.out.size; simp at *; omega)) _ | with_reducible refine Below.setCell ?_ (by first | exact Nat.le_refl _ | with_reducible exact HB.out.size | omega | (simp; done) | (simp; omega) | (have := HB.out.size; simp at *; omega)) _)) b)
    have Oa := Lib.hid (cards.Own.below (by repeat (first | with_reducible exact Oa.out | with_reducible apply cards.Own.drewN | with_reducible apply cards.Own.drew | with_reducible apply cards.Own.alloc)) b)
    have Ob := Lib.hid (cards.Own.below (by repeat (first | with_reducible exact Ob.out | with_reducible apply cards.Own.drewN | with_reducible apply cards.Own.drew | with_reducible apply cards.Own.alloc)) b)
    have Ra := Lib.hid (Rd.below (by repeat (first | with_reducible exact Ra.out | with_reducible apply Rd.drewN | with_reducible apply Rd.drew | with_reducible apply Rd.alloc)) b)
    have Oc := Lib.hid (cards.Own.below (by repeat (first | with_reducible exact Oc.out | with_reducible apply cards.Own.drewN | with_reducible apply cards.Own.drew | with_reducible apply cards.Own.alloc)) b)
    have Rc := Lib.hid (Rd.below (by repeat (first | with_reducible exact Rc.out | with_reducible apply Rd.drewN | with_reducible apply Rd.drew | with_reducible apply Rd.alloc)) b)
    clear b
    go_wp2_with fail
    refine ((held_hand (.slice pb m cb) _ 1 m _ (by have := HL.out; omega) Ob.out)).mono ?_
    rintro e w15 ⟨rfl, b⟩
    have Sw15 := Lib.hid b.size
    have HB := Lib.hid (chain0 (w := w) (by repeat (first | with_reducible exact Below.refl _ _ | with_reducible exact HB.out | with_reducible apply Below.drew | with_reducible apply bdN | with_reducible refine Below.alloc ?_ (by first | exact Nat.le_refl _ | with_reducible exact HB.out.size | omega | (simp; done) | (simp; omega) | (have := HB.out.size; simp at *; omega)) _ | with_reducible refine Below.setCell ?_ (by first | exact Nat.le_refl _ | with_reducible exact HB.out.size | omega | (simp; done) | (simp; omega) | (have := HB.out.size; simp at *; omega)) _)) b)
    have Oa := Lib.hid (cards.Own.below (by repeat (first | with_reducible exact Oa.out | with_reducible apply cards.Own.drewN | with_reducible apply cards.Own.drew | with_reducible apply cards.Own.alloc)) b)
    have Ob := Lib.hid (cards.Own.below (by repeat (first | with_reducible exact Ob.out | with_reducible apply cards.Own.drewN | with_reducible apply cards.Own.drew | with_reducible apply cards.Own.alloc)) b)
    have Ra := Lib.hid (Rd.below (by repeat (first | with_reducible exact Ra.out | with_reducible apply Rd.drewN | with_reducible apply Rd.drew | with_reducible apply Rd.alloc)) b)
    have Oc := Lib.hid (cards.Own.below (by repeat (first | with_reducible exact Oc.out | with_reducible apply cards.Own.drewN | with_reducible apply cards.Own.drew | with_reducible apply cards.Own.alloc)) b)
    have Rc := Lib.hid (Rd.below (by repeat (first | with_reducible exact Rc.out | with_reducible apply Rd.drewN | with_reducible apply Rd.drew | with_reducible apply Rd.alloc)) b)
    clear b
    go_wp2_with fail
    go_ret
    exact ⟨rfl, by repeat (first | with_reducible exact Below.refl _ _ | with_reducible exact HB.out | with_reducible apply Below.drew | with_reducible apply bdN | with_reducible refine Below.alloc ?_ (by first | exact Nat.le_refl _ | with_reducible exact HB.out.size | omega | (simp; done) | (simp; omega) | (have := HB.out.size; simp at *; omega)) _ | with_reducible refine Below.setCell ?_ (by first | exact Nat.le_refl _ | with_reducible exact HB.out.size | omega | (simp; done) | (simp; omega) | (have := HB.out.size; simp at *; omega)) _)⟩
  · go_enter Try.func6, Try.ntmps6
    go_wp2_with fail
    go_ret
    exact ⟨rfl, Below.refl _ _⟩

theorem own : ownKnob Try.prog.godebug = none := by kernel_rfl
theorem laidOut : laidOutB Try.prog = true := by kernel_rfl
set_option maxRecDepth 100000 in
set_option maxHeartbeats 1000000 in
theorem lifted (os : Os) (started : os.Started) (H : Type) (enc : TypeId × Value → H) :
    ReturnsInHanded {} Try.checked os 6 .any (Rows.fnExactParseHandSpec.pre6 enc Try.prog Try.f6 Rows.fnExactParseHandRow.domain false) (Rows.fnExactParseHandSpec.post enc Try.prog Try.f6 false true false false) := by
  refine returnsInHanded_of_change (C := Try.checked) own started (by kernel_rfl) Try.func6
    (ChangeSpec.witness6 (enc := enc) (C := Try.checked) false ⟨#[], #[.string ⟨#[]⟩], []⟩ 8 (by kernel_rfl) (by kernel_rfl) (by kernel_rfl) (by kernel_rfl)) ?_
  intro W base args ds gs before hval0 hW hcnd _
  have hval : ∀ (j : Nat) t v, Try.f6.params[j]? = some t → args[j]? = some v → Value.okWide Try.prog W .any base t v := hval0
  have hW' := hW
  obtain ⟨p, q, hA0, hV, rfl, hfz, hnd⟩ := hW
  have hA : DataW.TrodAll enc Try.prog W 0 (fun _ => true) true Try.f6.params.toList args.toList ds p := hA0
  rw [Try.params6] at hA hval
  have hR := fun (W' : World) (hb : Below W.heap.size W W') => frame.still_all laidOut hb _ _ _ _ (by decide +kernel) hA
  obtain ⟨v0, vs0, d0, ds0, p0, q0, hargs, rfl, hp, h0, r0⟩ := trodAll_cons hA
  obtain ⟨rfl, rfl, hpn⟩ := trodAll_nil r0
  obtain rfl : args = #[v0] := by cases args; simp_all
  obtain ⟨rfl, rfl⟩ := trodVars_none hV
  obtain ⟨a0, rfl, rfl, -, w0⟩ := open_string Try.underlying9 (hval 0 9 v0 rfl rfl) h0
  clear hA0 hval0
  simp only [List.append_nil] at hW'
  refine (walk a0 W w0).mono fun e W' ⟨he, hw⟩ => ?_
  subst he
  exact ⟨_, rfl, _, _, _, [], p, [], hW', trodAll_mk1 (shut_bool Try.underlying4 _), hR W' hw, rfl, hw.frame _, fun h => by cases h⟩

theorem over : Rows.fnExactParseHandRow.holds Try.pinned (OpenSpec.ofChange Rows.fnExactParseHandSpec) :=
  OpenClaim.holds_of_wide 6 Try.f6 rfl rfl rfl rfl rfl rfl rfl ⟨rfl, rfl, rfl, rfl, rfl⟩ rfl rfl rfl rfl rfl (by kernel_rfl) Try.func6 (by kernel_rfl)
    (of_decide_eq_true (by kernel_rfl)) (by unfold Func.isWrapper; first | (rw [if_pos (by decide +kernel)]; kernel_rfl) | (rw [if_neg (by decide +kernel)]; exact ⟨rfl, rfl⟩))
    (fun os started H enc _ => lifted os started H enc)

theorem proved : Rows.FnExactParseHandSaid := over
end Go.Proofs.Ytjanphcfflahkaa.lawParseHand