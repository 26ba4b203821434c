/- FnExactFixedCards: for all arguments, valid or not, the law returns true and its arguments read as before. No condition. -/
import Derived.Test.YtngfdfgeoieebaaRows
import Derived.Test.YtngfdfgeoieebaaMg
import Derived.Test.YtngfdfgeoieebaaRm
import Derived.Test.YtngfdfgeoieebaaMt
import Derived.Test.YtngfdfgeoieebaaIx
namespace Go.Proofs.Ytngfdfgeoieebaa.lawFixedCards
open Go.ChangeShapes Go.WideShapes Go.ChangeAt Go.RowKit
open Go.ChangeMaps (open_string shut_string)
open cards maps reg
set_option linter.unusedVariables false

set_option maxRecDepth 100000 in
set_option maxHeartbeats 4000000 in
theorem walk (a0 : Mp) (w : World) :
    Calls Try.prog 9 #[a0.val] w fun e w' => e = .returned (.bool true) ∧ Below w.heap.size w w' := by
  have HL : Hid ((fxR a0).1.length ≤ 100000000) := Nat.le_trans (fxR_len a0) (by omega)
  obtain ⟨R, hR⟩ : ∃ R, (fxR a0).1 = R := ⟨_, rfl⟩
  obtain ⟨ok, hok⟩ : ∃ ok, (fxR a0).2 = ok := ⟨_, rfl⟩
  have HS := Lib.hid (fun w => spec_fx a0 w)
  have HI := Lib.hid (fun w => impl_fx a0 w)
  rw [hR] at HL HS HI
  rw [hok] at HS HI
  clear hR hok
  obtain ⟨m, hm⟩ : ∃ m, R.length = m := ⟨_, rfl⟩
  have HMm := Lib.hid hm
  rw [hm] at HL
  clear hm
  have K0 : Hid (MBox (w.alloc (Mv.obj ⟨26, a0⟩)) (w.heap.size) ⟨26, a0⟩) := Lib.hid (MBox.newAt rfl rfl)
  have HB : Hid (Below w.heap.size w (w.alloc (Mv.obj ⟨26, a0⟩))) := Lib.hid (Below.alloc (Below.refl _ _) (Nat.le_refl _) _)
  go_enter Try.func9, Try.ntmps9
  go_upto_region 1 with fail
  generalize w.alloc (Mv.obj ⟨26, a0⟩) = W at *
  have KZ0 := Lib.hid K0.out.lt
  go_wp2_with ((with_reducible refine take_mapL rfl _ rfl K0.out ?_ ?_); rfl)
  go_wp2_with fail
  refine ((to_map a0 _)).mono ?_
  rintro e w2x ⟨rfl, b⟩
  have Sw2x := Lib.hid b.size
  have HB := Lib.hid (chain0 (w := w) (by repeat (first | with_reducible exact Below.refl _ _ | with_reducible exact HB.out | with_reducible apply Below.drew | with_reducible apply bdN | with_reducible refine Below.alloc ?_ (by first | exact Nat.le_refl _ | with_reducible exact HB.out.size | omega | (simp; done) | (simp; omega) | (have := HB.out.size; simp at *; omega)) _ | with_reducible refine Below.setCell ?_ (by first | exact Nat.le_refl _ | with_reducible exact HB.out.size | omega | (simp; done) | (simp; omega) | (have := HB.out.size; simp at *; omega)) _)) b)
  have K0 := Lib.hid (MBox.below (by repeat (first | with_reducible exact K0.out | with_reducible apply MBox.drewN | with_reducible apply MBox.drew | with_reducible apply MBox.alloc)) b)
  clear b
  go_wp2_with fail
  refine ((HS.out _)).mono ?_
  rintro e w2 ⟨va, rfl, oa, b⟩
  obtain ⟨pa, ca, rfl, hca, ra, _⟩ := oa.form
  rw [HMm.out] at oa hca ⊢
  have Sw2 := Lib.hid b.size
  have La := Lib.hid oa.span
  have HB := Lib.hid (chain0 (w := w) (by repeat (first | with_reducible exact Below.refl _ _ | with_reducible exact HB.out | with_reducible apply Below.drew | with_reducible apply bdN | with_reducible refine Below.alloc ?_ (by first | exact Nat.le_refl _ | with_reducible exact HB.out.size | omega | (simp; done) | (simp; omega) | (have := HB.out.size; simp at *; omega)) _ | with_reducible refine Below.setCell ?_ (by first | exact Nat.le_refl _ | with_reducible exact HB.out.size | omega | (simp; done) | (simp; omega) | (have := HB.out.size; simp at *; omega)) _)) b)
  have Zw2 := Lib.hid HB.out.size
  have K0 := Lib.hid (MBox.below (by repeat (first | with_reducible exact K0.out | with_reducible apply MBox.drewN | with_reducible apply MBox.drew | with_reducible apply MBox.alloc)) b)
  have Oa := Lib.hid oa
  have Ra := Lib.hid ra
  clear b oa ra
  go_wp2_with ((with_reducible refine take_mapL rfl _ rfl K0.out ?_ ?_); rfl)
  go_wp2_with fail
  refine ((to_map a0 _)).mono ?_
  rintro e w4x ⟨rfl, b⟩
  have Sw4x := Lib.hid b.size
  have HB := Lib.hid (chain0 (w := w) (by repeat (first | with_reducible exact Below.refl _ _ | with_reducible exact HB.out | with_reducible apply Below.drew | with_reducible apply bdN | with_reducible refine Below.alloc ?_ (by first | exact Nat.le_refl _ | with_reducible exact HB.out.size | omega | (simp; done) | (simp; omega) | (have := HB.out.size; simp at *; omega)) _ | with_reducible refine Below.setCell ?_ (by first | exact Nat.le_refl _ | with_reducible exact HB.out.size | omega | (simp; done) | (simp; omega) | (have := HB.out.size; simp at *; omega)) _)) b)
  have K0 := Lib.hid (MBox.below (by repeat (first | with_reducible exact K0.out | with_reducible apply MBox.drewN | with_reducible apply MBox.drew | with_reducible apply MBox.alloc)) b)
  have Oa := Lib.hid (OwnI.below (by repeat (first | with_reducible exact Oa.out | with_reducible apply OwnI.drewN | with_reducible apply OwnI.drew | with_reducible apply OwnI.alloc)) b)
  have Ra := Lib.hid (Rd.below (by repeat (first | with_reducible exact Ra.out | with_reducible apply Rd.drewN | with_reducible apply Rd.drew | with_reducible apply Rd.alloc)) b)
  clear b
  go_wp2_with fail
  refine ((HI.out _)).mono ?_
  rintro e w4 ⟨vb, rfl, ob, b⟩
  obtain ⟨pb, cb, rfl, hcb, rb, _⟩ := ob.form
  rw [HMm.out] at ob hcb ⊢
  have Sw4 := Lib.hid b.size
  have Lb := Lib.hid ob.span
  have HB := Lib.hid (chain0 (w := w) (by repeat (first | with_reducible exact Below.refl _ _ | with_reducible exact HB.out | with_reducible apply Below.drew | with_reducible apply bdN | with_reducible refine Below.alloc ?_ (by first | exact Nat.le_refl _ | with_reducible exact HB.out.size | omega | (simp; done) | (simp; omega) | (have := HB.out.size; simp at *; omega)) _ | with_reducible refine Below.setCell ?_ (by first | exact Nat.le_refl _ | with_reducible exact HB.out.size | omega | (simp; done) | (simp; omega) | (have := HB.out.size; simp at *; omega)) _)) b)
  have Zw4 := Lib.hid HB.out.size
  have K0 := Lib.hid (MBox.below (by repeat (first | with_reducible exact K0.out | with_reducible apply MBox.drewN | with_reducible apply MBox.drew | with_reducible apply MBox.alloc)) b)
  have Oa := Lib.hid (OwnI.below (by repeat (first | with_reducible exact Oa.out | with_reducible apply OwnI.drewN | with_reducible apply OwnI.drew | with_reducible apply OwnI.alloc)) b)
  have Ra := Lib.hid (Rd.below (by repeat (first | with_reducible exact Ra.out | with_reducible apply Rd.drewN | with_reducible apply Rd.drew | with_reducible apply Rd.alloc)) b)
  have Ob := Lib.hid ob
  have Rb := Lib.hid rb
  clear b ob rb
  go_wp2_with fail
  refine ((eq_ints R pb pa m cb ca _ HMm.out (by have := HL.out; omega) Rb.out Ra.out)).mono ?_
  rintro e w5 ⟨rfl, b⟩
  have Sw5 := Lib.hid b.size
  have HB := Lib.hid (chain0 (w := w) (by repeat (first | with_reducible exact Below.refl _ _ | with_reducible exact HB.out | with_reducible apply Below.drew | with_reducible apply bdN | with_reducible refine Below.alloc ?_ (by first | exact Nat.le_refl _ | with_reducible exact HB.out.size | omega | (simp; done) | (simp; omega) | (have := HB.out.size; simp at *; omega)) _ | with_reducible refine Below.setCell ?_ (by first | exact Nat.le_refl _ | with_reducible exact HB.out.size | omega | (simp; done) | (simp; omega) | (have := HB.out.size; simp at *; omega)) _)) b)
  have K0 := Lib.hid (MBox.below (by repeat (first | with_reducible exact K0.out | with_reducible apply MBox.drewN | with_reducible apply MBox.drew | with_reducible apply MBox.alloc)) b)
  have Oa := Lib.hid (OwnI.below (by repeat (first | with_reducible exact Oa.out | with_reducible apply OwnI.drewN | with_reducible apply OwnI.drew | with_reducible apply OwnI.alloc)) b)
  have Ra := Lib.hid (Rd.below (by repeat (first | with_reducible exact Ra.out | with_reducible apply Rd.drewN | with_reducible apply Rd.drew | with_reducible apply Rd.alloc)) b)
  have Ob := Lib.hid (OwnI.below (by repeat (first | with_reducible exact Ob.out | with_reducible apply OwnI.drewN | with_reducible apply OwnI.drew | with_reducible apply OwnI.alloc)) b)
  have Rb := Lib.hid (Rd.below (by repeat (first | with_reducible exact Rb.out | with_reducible apply Rd.drewN | with_reducible apply Rd.drew | with_reducible apply Rd.alloc)) b)
  clear b
  go_wp2_with fail
  refine ((mark_ints R (.slice pb m cb) _ 1 m _ HMm.out (by have := HL.out; omega) (by have := Sw4.out; have := Sw5.out; omega) Ob.out)).mono ?_
  rintro e w10 ⟨rfl, oM, gM⟩
  have Sw10 := Lib.hid gM.size
  have HB := Lib.hid (Below.grown HB.out gM HB.out.size (fun k hk => Nat.le_trans (by have h0 := KZ0.out; have h1 := Sw2x.out; have h2 := Zw2.out; have h3 := Sw2.out; have h4 := Sw4x.out; have h5 := Zw4.out; have h6 := Sw4.out; have h7 := Sw5.out; first | omega | (simp at *; omega)) (Lb.out k hk).1))
  have K0 := Lib.hid (MBox.marked K0.out gM (fun k hk => Nat.lt_of_lt_of_le (by have h0 := KZ0.out; have h1 := Sw2x.out; have h2 := Zw2.out; have h3 := Sw2.out; have h4 := Sw4x.out; have h5 := Zw4.out; have h6 := Sw4.out; have h7 := Sw5.out; first | omega | (simp at *; omega)) (Lb.out k hk).1))
  have Oa := Lib.hid (OwnI.stay Oa.out gM La.out Lb.out (by have h0 := KZ0.out; have h1 := Sw2x.out; have h2 := Zw2.out; have h3 := Sw2.out; have h4 := Sw4x.out; have h5 := Zw4.out; have h6 := Sw4.out; have h7 := Sw5.out; first | omega | (simp at *; omega)))
  have Ob := Lib.hid oM
  have Ra := Lib.hid (OwnI.rd Oa.out)
  clear oM gM
  go_wp2_with fail
  refine ((held_ints (.slice pb m cb) _ 1 m _ (by have := HL.out; omega) Ob.out)).mono ?_
  rintro e w11 ⟨rfl, b⟩
  have Sw11 := Lib.hid b.size
  have HB := Lib.hid (chain0 (w := w) (by repeat (first | with_reducible exact Below.refl _ _ | with_reducible exact HB.out | with_reducible apply Below.drew | with_reducible apply bdN | with_reducible refine Below.alloc ?_ (by first | exact Nat.le_refl _ | with_reducible exact HB.out.size | omega | (simp; done) | (simp; omega) | (have := HB.out.size; simp at *; omega)) _ | with_reducible refine Below.setCell ?_ (by first | exact Nat.le_refl _ | with_reducible exact HB.out.size | omega | (simp; done) | (simp; omega) | (have := HB.out.size; simp at *; omega)) _)) b)
  have K0 := Lib.hid (MBox.below (by repeat (first | with_reducible exact K0.out | with_reducible apply MBox.drewN | with_reducible apply MBox.drew | with_reducible apply MBox.alloc)) b)
  have Oa := Lib.hid (OwnI.below (by repeat (first | with_reducible exact Oa.out | with_reducible apply OwnI.drewN | with_reducible apply OwnI.drew | with_reducible apply OwnI.alloc)) b)
  have Ob := Lib.hid (OwnI.below (by repeat (first | with_reducible exact Ob.out | with_reducible apply OwnI.drewN | with_reducible apply OwnI.drew | with_reducible apply OwnI.alloc)) b)
  have Ra := Lib.hid (Rd.below (by repeat (first | with_reducible exact Ra.out | with_reducible apply Rd.drewN | with_reducible apply Rd.drew | with_reducible apply Rd.alloc)) b)
  clear b
  go_wp2_with ((with_reducible refine take_mapL rfl _ rfl K0.out ?_ ?_); rfl)
  go_wp2_with fail
  refine ((to_map a0 _)).mono ?_
  rintro e w13x ⟨rfl, b⟩
  have Sw13x := Lib.hid b.size
  have HB := Lib.hid (chain0 (w := w) (by repeat (first | with_reducible exact Below.refl _ _ | with_reducible exact HB.out | with_reducible apply Below.drew | with_reducible apply bdN | with_reducible refine Below.alloc ?_ (by first | exact Nat.le_refl _ | with_reducible exact HB.out.size | omega | (simp; done) | (simp; omega) | (have := HB.out.size; simp at *; omega)) _ | with_reducible refine Below.setCell ?_ (by first | exact Nat.le_refl _ | with_reducible exact HB.out.size | omega | (simp; done) | (simp; omega) | (have := HB.out.size; simp at *; omega)) _)) b)
  have K0 := Lib.hid (MBox.below (by repeat (first | with_reducible exact K0.out | with_reducible apply MBox.drewN | with_reducible apply MBox.drew | with_reducible apply MBox.alloc)) b)
  have Oa := Lib.hid (OwnI.below (by repeat (first | with_reducible exact Oa.out | with_reducible apply OwnI.drewN | with_reducible apply OwnI.drew | with_reducible apply OwnI.alloc)) b)
  have Ob := Lib.hid (OwnI.below (by repeat (first | with_reducible exact Ob.out | with_reducible apply OwnI.drewN | with_reducible apply OwnI.drew | with_reducible apply OwnI.alloc)) b)
  have Ra := Lib.hid (Rd.below (by repeat (first | with_reducible exact Ra.out | with_reducible apply Rd.drewN | with_reducible apply Rd.drew | with_reducible apply Rd.alloc)) b)
  clear b
  go_wp2_with fail
  refine ((HI.out _)).mono ?_
  rintro e w13 ⟨vc, rfl, oc, b⟩
  obtain ⟨pc, cc, rfl, hcc, rc, _⟩ := oc.form
  rw [HMm.out] at oc hcc ⊢
  have Sw13 := Lib.hid b.size
  have Lc := Lib.hid oc.span
  have HB := Lib.hid (chain0 (w := w) (by repeat (first | with_reducible exact Below.refl _ _ | with_reducible exact HB.out | with_reducible apply Below.drew | with_reducible apply bdN | with_reducible refine Below.alloc ?_ (by first | exact Nat.le_refl _ | with_reducible exact HB.out.size | omega | (simp; done) | (simp; omega) | (have := HB.out.size; simp at *; omega)) _ | with_reducible refine Below.setCell ?_ (by first | exact Nat.le_refl _ | with_reducible exact HB.out.size | omega | (simp; done) | (simp; omega) | (have := HB.out.size; simp at *; omega)) _)) b)
  have Zw13 := Lib.hid HB.out.size
  have K0 := Lib.hid (MBox.below (by repeat (first | with_reducible exact K0.out | with_reducible apply MBox.drewN | with_reducible apply MBox.drew | with_reducible apply MBox.alloc)) b)
  have Oa := Lib.hid (OwnI.below (by repeat (first | with_reducible exact Oa.out | with_reducible apply OwnI.drewN | with_reducible apply OwnI.drew | with_reducible apply OwnI.alloc)) b)
  have Ob := Lib.hid (OwnI.below (by repeat (first | with_reducible exact Ob.out | with_reducible apply OwnI.drewN | with_reducible apply OwnI.drew | with_reducible apply OwnI.alloc)) b)
  have Ra := Lib.hid (Rd.below (by repeat (first | with_reducible exact Ra.out | with_reducible apply Rd.drewN | with_reducible apply Rd.drew | with_reducible apply Rd.alloc)) b)
  have Oc := Lib.hid oc
  have Rc := Lib.hid rc
  clear b oc rc
  go_wp2_with fail
  refine ((eq_ints R pc pa m cc ca _ HMm.out (by have := HL.out; omega) Rc.out Ra.out)).mono ?_
  rintro e w14 ⟨rfl, b⟩
  have Sw14 := Lib.hid b.size
  have HB := Lib.hid (chain0 (w := w) (by repeat (first | with_reducible exact Below.refl _ _ | with_reducible exact HB.out | with_reducible apply Below.drew | with_reducible apply bdN | with_reducible refine Below.alloc ?_ (by first | exact Nat.le_refl _ | with_reducible exact HB.out.size | omega | (simp; done) | (simp; omega) | (have := HB.out.size; simp at *; omega)) _ | with_reducible refine Below.setCell ?_ (by first | exact Nat.le_refl _ | with_reducible exact HB.out.size | omega | (simp; done) | (simp; omega) | (have := HB.out.size; simp at *; omega)) _)) b)
  have K0 := Lib.hid (MBox.below (by repeat (first | with_reducible exact K0.out | with_reducible apply MBox.drewN | with_reducible apply MBox.drew | with_reducible apply MBox.alloc)) b)
  have Oa := Lib.hid (OwnI.below (by repeat (first | with_reducible exact Oa.out | with_reducible apply OwnI.drewN | with_reducible apply OwnI.drew | with_reducible apply OwnI.alloc)) b)
  have Ob := Lib.hid (OwnI.below (by repeat (first | with_reducible exact Ob.out | with_reducible apply OwnI.drewN | with_reducible apply OwnI.drew | with_reducible apply OwnI.alloc)) b)
  have Ra := Lib.hid (Rd.below (by repeat (first | with_reducible exact Ra.out | with_reducible apply Rd.drewN | with_reducible apply Rd.drew | with_reducible apply Rd.alloc)) b)
  have Oc := Lib.hid (OwnI.below (by repeat (first | with_reducible exact Oc.out | with_reducible apply OwnI.drewN | with_reducible apply OwnI.drew | with_reducible apply OwnI.alloc)) b)
  have Rc := Lib.hid (Rd.below (by repeat (first | with_reducible exact Rc.out | with_reducible apply Rd.drewN | with_reducible apply Rd.drew | with_reducible apply Rd.alloc)) b)
  clear b
  go_wp2_with fail
  refine ((held_ints (.slice pb m cb) _ 1 m _ (by have := HL.out; omega) Ob.out)).mono ?_
  rintro e w15 ⟨rfl, b⟩
  have Sw15 := Lib.hid b.size
  have HB := Lib.hid (chain0 (w := w) (by repeat (first | with_reducible exact Below.refl _ _ | with_reducible exact HB.out | with_reducible apply Below.drew | with_reducible apply bdN | with_reducible refine Below.alloc ?_ (by first | exact Nat.le_refl _ | with_reducible exact HB.out.size | omega | (simp; done) | (simp; omega) | (have := HB.out.size; simp at *; omega)) _ | with_reducible refine Below.setCell ?_ (by first | exact Nat.le_refl _ | with_reducible exact HB.out.size | omega | (simp; done) | (simp; omega) | (have := HB.out.size; simp at *; omega)) _)) b)
  have K0 := Lib.hid (MBox.below (by repeat (first | with_reducible exact K0.out | with_reducible apply MBox.drewN | with_reducible apply MBox.drew | with_reducible apply MBox.alloc)) b)
  have Oa := Lib.hid (OwnI.below (by repeat (first | with_reducible exact Oa.out | with_reducible apply OwnI.drewN | with_reducible apply OwnI.drew | with_reducible apply OwnI.alloc)) b)
  have Ob := Lib.hid (OwnI.below (by repeat (first | with_reducible exact Ob.out | with_reducible apply OwnI.drewN | with_reducible apply OwnI.drew | with_reducible apply OwnI.alloc)) b)
  have Ra := Lib.hid (Rd.below (by repeat (first | with_reducible exact Ra.out | with_reducible apply Rd.drewN | with_reducible apply Rd.drew | with_reducible apply Rd.alloc)) b)
  have Oc := Lib.hid (OwnI.below (by repeat (first | with_reducible exact Oc.out | with_reducible apply OwnI.drewN | with_reducible apply OwnI.drew | with_reducible apply OwnI.alloc)) b)
  have Rc := Lib.hid (Rd.below (by repeat (first | with_reducible exact Rc.out | with_reducible apply Rd.drewN | with_reducible apply Rd.drew | with_reducible apply Rd.alloc)) b)
  clear b
  go_wp2_with fail
  go_ret
  exact ⟨rfl, by repeat (first | with_reducible exact Below.refl _ _ | with_reducible exact HB.out | with_reducible apply Below.drew | with_reducible apply bdN | with_reducible refine Below.alloc ?_ (by first | exact Nat.le_refl _ | with_reducible exact HB.out.size | omega | (simp; done) | (simp; omega) | (have := HB.out.size; simp at *; omega)) _ | with_reducible refine Below.setCell ?_ (by first | exact Nat.le_refl _ | with_reducible exact HB.out.size | omega | (simp; done) | (simp; omega) | (have := HB.out.size; simp at *; omega)) _)⟩

theorem own : ownKnob Try.prog.godebug = none := by kernel_rfl
theorem laidOut : laidOutB Try.prog = true := by kernel_rfl
set_option maxRecDepth 100000 in
set_option maxHeartbeats 1000000 in
theorem lifted (os : Os) (started : os.Started) (H : Type) (enc : TypeId × Value → H) :
    ReturnsInHanded {} Try.checked os 9 .any (Rows.fnExactFixedCardsSpec.pre6 enc Try.prog Try.f9 Rows.fnExactFixedCardsRow.domain false) (Rows.fnExactFixedCardsSpec.post enc Try.prog Try.f9 false true false false) := by
  refine returnsInHanded_of_change (C := Try.checked) own started (by kernel_rfl) Try.func9
    (ChangeSpec.witness6 (enc := enc) (C := Try.checked) false ⟨#[], #[.agg #[.int .i64 0, .int .i64 0, .int .i64 0, .int .i64 0, .int .i64 0, .int .i64 0, .int .i64 0, .int .i64 0, .int .i64 0, .int .i64 0, .int .i64 0, .int .i64 0, .int .i64 0, .int .i64 0, .int .i64 0, .int .i64 0]], []⟩ 8 (by kernel_rfl) (by kernel_rfl) (by kernel_rfl) (by kernel_rfl)) ?_
  intro W base args ds gs before hval0 hW hcnd _
  have hval : ∀ (j : Nat) t v, Try.f9.params[j]? = some t → args[j]? = some v → Value.okWide Try.prog W .any base t v := hval0
  have hW' := hW
  obtain ⟨p, q, hA0, hV, rfl, hfz, hnd⟩ := hW
  have hA : DataW.TrodAll enc Try.prog W 0 (fun _ => true) true Try.f9.params.toList args.toList ds p := hA0
  rw [Try.params9] at hA hval
  have hR := fun (W' : World) (hb : Below W.heap.size W W') => frame.still_all laidOut hb _ _ _ _ (by decide +kernel) hA
  obtain ⟨v0, vs0, d0, ds0, p0, q0, hargs, rfl, hp, h0, r0⟩ := trodAll_cons hA
  obtain ⟨rfl, rfl, hpn⟩ := trodAll_nil r0
  obtain rfl : args = #[v0] := by cases args; simp_all
  obtain ⟨rfl, rfl⟩ := trodVars_none hV
  obtain ⟨a0, rfl⟩ := frame.open_map Try.underlying26 rfl rfl rfl rfl Try.underlying22 Try.underlying24 Try.underlying23 Try.underlying3 (by kernel_rfl) (by kernel_rfl) (by kernel_rfl) (by kernel_rfl) (by kernel_rfl) (hval 0 26 v0 rfl rfl) h0
  clear hA0 hval0
  simp only [List.append_nil] at hW'
  refine (walk a0 W ).mono fun e W' ⟨he, hw⟩ => ?_
  subst he
  exact ⟨_, rfl, _, _, _, [], p, [], hW', trodAll_mk1 (shut_bool Try.underlying4 _), hR W' hw, rfl, hw.frame _, fun h => by cases h⟩

theorem over : Rows.fnExactFixedCardsRow.holds Try.pinned (OpenSpec.ofChange Rows.fnExactFixedCardsSpec) :=
  OpenClaim.holds_of_wide 9 Try.f9 rfl rfl rfl rfl rfl rfl rfl ⟨rfl, rfl, rfl, rfl, rfl⟩ rfl rfl rfl rfl rfl (by kernel_rfl) Try.func9 (by kernel_rfl)
    (of_decide_eq_true (by kernel_rfl)) (by unfold Func.isWrapper; first | (rw [if_pos (by decide +kernel)]; kernel_rfl) | (rw [if_neg (by decide +kernel)]; exact ⟨rfl, rfl⟩))
    (fun os started H enc _ => lifted os started H enc)

theorem proved : Rows.FnExactFixedCardsSaid := over
end Go.Proofs.Ytngfdfgeoieebaa.lawFixedCards