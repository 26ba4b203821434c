/- FnExactOrbitOf: for all arguments, valid or not, the law returns true and its arguments read as before. No condition. -/
import Derived.Test.YtngfdfgeoieebaaRows
import Derived.Test.YtngfdfgeoieebaaMg
import Derived.Test.YtngfdfgeoieebaaRm
import Derived.Test.YtngfdfgeoieebaaMx
import Derived.Test.YtngfdfgeoieebaaIx
namespace Go.Proofs.Ytngfdfgeoieebaa.lawOrbitOf
open Go.ChangeShapes Go.WideShapes Go.ChangeAt Go.RowKit
open Go.ChangeMaps (open_string shut_string)
open cards maps reg
set_option linter.unusedVariables false

set_option maxRecDepth 100000 in
set_option maxHeartbeats 4000000 in
theorem walk (a0 : Mp) (a1 : Cd) (w : World) :
    Calls Try.prog 11 #[a0.val, a1.val] w fun e w' => e = .returned (.bool true) ∧ Below w.heap.size w w' := by
  have HL : Hid ((orbR a0 a1).1.length ≤ 100000000) := Nat.le_trans (orbR_len a0 a1) (by omega)
  obtain ⟨R, hR⟩ : ∃ R, (orbR a0 a1).1 = R := ⟨_, rfl⟩
  obtain ⟨ok, hok⟩ : ∃ ok, (orbR a0 a1).2 = ok := ⟨_, rfl⟩
  have HS := Lib.hid (fun w => spec_orb a0 a1 w)
  have HI := Lib.hid (fun w => impl_orb a0 a1 w)
  rw [hR] at HL HS HI
  rw [hok] at HS HI
  clear hR hok
  obtain ⟨m, hm⟩ : ∃ m, R.length = m := ⟨_, rfl⟩
  have HMm := Lib.hid hm
  rw [hm] at HL
  clear hm
  have K0 : Hid (MBox ((w.alloc (Mv.obj ⟨26, a0⟩)).alloc (a1.obj)) (w.heap.size) ⟨26, a0⟩) := Lib.hid ((MBox.newAt rfl rfl).alloc _)
  have K1 : Hid (Box ((w.alloc (Mv.obj ⟨26, a0⟩)).alloc (a1.obj)) (w.heap.size + 1) a1) := Lib.hid (Box.newAt (by simp) rfl)
  have HB : Hid (Below w.heap.size w ((w.alloc (Mv.obj ⟨26, a0⟩)).alloc (a1.obj))) := Lib.hid (Below.alloc (Below.alloc (Below.refl _ _) (Nat.le_refl _) _) (by simp) _)
  go_enter Try.func11, Try.ntmps11
  go_upto_region 1 with fail
  generalize (w.alloc (Mv.obj ⟨26, a0⟩)).alloc (a1.obj) = W at *
  have KZ0 := Lib.hid K0.out.lt
  have KZ1 := Lib.hid K1.out.lt
  refine region_BI [(true, 0), (true, 2), (false, 1), (false, 3), (false, 4), (true, 5), (true, 6), (true, 7), (true, 8), (true, 9)] (by kernel_rfl) rfl (by kernel_rfl) ?_
  refine chain_load 14 rfl rfl rfl 26 _ rfl rfl a0.vals (fun w h => MBox.below K0.out h) Try.underlying26 rfl (by kernel_rfl) ?_
  refine chain_load 16 rfl rfl rfl 22 _ rfl rfl #[.int .i64 a1.a, .int .i64 a1.b, .int .i64 a1.c, .int .i64 a1.d] (fun w h => Box.below K1.out h) Try.underlying22 rfl (by kernel_rfl) ?_
  refine chain_call 15 rfl rfl rfl (fun w => by kernel_rfl) (fun w h => to_map a0 w) ?_
  refine chain_call 17 rfl rfl rfl (fun w => by kernel_rfl) (fun w h => to_a4 a1 w) ?_
  refine chain_callE 18 rfl rfl rfl (fun w => by kernel_rfl) (fun wy hy => (HS.out wy).mono ?_)
  rintro e wz ⟨u, rfl, ho, b⟩
  refine ⟨_, rfl, b, fun w' => BI W w' ∧ OwnI w' W.heap.size u R, ⟨fun _ h => h.1, fun _ h => h.1.size, fun _ h => ⟨Below.alloc h.1 h.1.size _, h.2.alloc _⟩⟩, ⟨BI.next hy b, by first | exact OwnI.base ho hy.size | exact maps.OwnI.baseM ho hy.size⟩, ?_⟩
  clear ho b hy
  refine chain_pure 13 (v := .tuple #[u, .bool ok]) rfl rfl rfl (fun w => by kernel_rfl) ?_
  refine chain_pure 19 (v := u) rfl rfl rfl (fun w => by kernel_rfl) ?_
  refine chain_pure 20 (v := .bool ok) rfl rfl rfl (fun w => by kernel_rfl) ?_
  refine chain_pure 5 (v := u) rfl rfl rfl (fun w => by kernel_rfl) ?_
  refine chain_pure 6 (v := .bool ok) rfl rfl rfl (fun w => by kernel_rfl) ?_
  clear wy wz
  rintro w2 ⟨b, oa⟩
  have Sw2 := Lib.hid b.size
  obtain ⟨pa, ca, rfl, hca, ra, _⟩ := oa.form
  rw [HMm.out] at oa hca ⊢
  have La := Lib.hid oa.span
  simp only [Act.put, List.setIfInBounds_toArray, List.set_cons_zero, List.set_cons_succ]
  have K0 := Lib.hid (MBox.below K0.out b)
  have K1 := Lib.hid (Box.below K1.out b)
  have HB := Lib.hid (chain0 HB.out b)
  have Oa := Lib.hid oa
  have Ra := Lib.hid ra
  clear b oa ra
  go_upto_region 2 with fail
  refine region_BI [(true, 0), (true, 2), (false, 1), (false, 3), (false, 4), (true, 5), (true, 6), (true, 7), (true, 8), (true, 9)] (by kernel_rfl) rfl (by kernel_rfl) ?_
  refine chain_load 22 rfl rfl rfl 26 _ rfl rfl a0.vals (fun w h => MBox.below K0.out h) Try.underlying26 rfl (by kernel_rfl) ?_
  refine chain_load 24 rfl rfl rfl 22 _ rfl rfl #[.int .i64 a1.a, .int .i64 a1.b, .int .i64 a1.c, .int .i64 a1.d] (fun w h => Box.below K1.out h) Try.underlying22 rfl (by kernel_rfl) ?_
  refine chain_call 23 rfl rfl rfl (fun w => by kernel_rfl) (fun w h => to_map a0 w) ?_
  refine chain_call 25 rfl rfl rfl (fun w => by kernel_rfl) (fun w h => to_a4 a1 w) ?_
  refine chain_callE 26 rfl rfl rfl (fun w => by kernel_rfl) (fun wy hy => (HI.out wy).mono ?_)
  rintro e wz ⟨u, rfl, ho, b⟩
  refine ⟨_, rfl, b, fun w' => BI w2 w' ∧ OwnI w' w2.heap.size u R, ⟨fun _ h => h.1, fun _ h => h.1.size, fun _ h => ⟨Below.alloc h.1 h.1.size _, h.2.alloc _⟩⟩, ⟨BI.next hy b, by first | exact OwnI.base ho hy.size | exact maps.OwnI.baseM ho hy.size⟩, ?_⟩
  clear ho b hy
  refine chain_pure 21 (v := .tuple #[u, .bool ok]) rfl rfl rfl (fun w => by kernel_rfl) ?_
  refine chain_pure 27 (v := u) rfl rfl rfl (fun w => by kernel_rfl) ?_
  refine chain_pure 28 (v := .bool ok) rfl rfl rfl (fun w => by kernel_rfl) ?_
  refine chain_pure 7 (v := u) rfl rfl rfl (fun w => by kernel_rfl) ?_
  refine chain_pure 8 (v := .bool ok) rfl rfl rfl (fun w => by kernel_rfl) ?_
  clear wy wz
  rintro w4 ⟨b, ob⟩
  have Sw4 := Lib.hid b.size
  obtain ⟨pb, cb, rfl, hcb, rb, _⟩ := ob.form
  rw [HMm.out] at ob hcb ⊢
  have Lb := Lib.hid ob.span
  simp only [Act.put, List.setIfInBounds_toArray, List.set_cons_zero, List.set_cons_succ]
  have K0 := Lib.hid (MBox.below K0.out b)
  have K1 := Lib.hid (Box.below K1.out b)
  have Oa := Lib.hid (OwnI.below Oa.out b)
  have Ra := Lib.hid (Rd.below Ra.out b)
  have HB := Lib.hid (chain0 HB.out b)
  have Ob := Lib.hid ob
  have Rb := Lib.hid rb
  clear b ob rb
  go_wp2_with fail
  refine ((eq_ints R pb pa m cb ca _ HMm.out (by have := HL.out; omega) Rb.out Ra.out)).mono ?_
  rintro e w5 ⟨rfl, b⟩
  have Sw5 := Lib.hid b.size
  have HB := Lib.hid (chain0 (w := w) (by repeat (first | with_reducible exact Below.refl _ _ | with_reducible exact HB.out | with_reducible apply Below.drew | with_reducible apply bdN | with_reducible refine Below.alloc ?_ (by first | exact Nat.le_refl _ | with_reducible exact HB.out.size | omega | (simp; done) | (simp; omega) | (have := HB.out.size; simp at *; omega)) _ | with_reducible refine Below.setCell ?_ (by first | exact Nat.le_refl _ | with_reducible exact HB.out.size | omega | (simp; done) | (simp; omega) | (have := HB.out.size; simp at *; omega)) _)) b)
  have K0 := Lib.hid (MBox.below (by repeat (first | with_reducible exact K0.out | with_reducible apply MBox.drewN | with_reducible apply MBox.drew | with_reducible apply MBox.alloc)) b)
  have K1 := Lib.hid (Box.below (by repeat (first | with_reducible exact K1.out | with_reducible apply Box.drewN | with_reducible apply Box.drew | with_reducible apply Box.alloc)) b)
  have Oa := Lib.hid (OwnI.below (by repeat (first | with_reducible exact Oa.out | with_reducible apply OwnI.drewN | with_reducible apply OwnI.drew | with_reducible apply OwnI.alloc)) b)
  have Ra := Lib.hid (Rd.below (by repeat (first | with_reducible exact Ra.out | with_reducible apply Rd.drewN | with_reducible apply Rd.drew | with_reducible apply Rd.alloc)) b)
  have Ob := Lib.hid (OwnI.below (by repeat (first | with_reducible exact Ob.out | with_reducible apply OwnI.drewN | with_reducible apply OwnI.drew | with_reducible apply OwnI.alloc)) b)
  have Rb := Lib.hid (Rd.below (by repeat (first | with_reducible exact Rb.out | with_reducible apply Rd.drewN | with_reducible apply Rd.drew | with_reducible apply Rd.alloc)) b)
  clear b
  go_wp2_with fail
  refine ((mark_ints R (.slice pb m cb) _ 1 m _ HMm.out (by have := HL.out; omega) (by have := Sw4.out; have := Sw5.out; omega) Ob.out)).mono ?_
  rintro e w10 ⟨rfl, oM, gM⟩
  have Sw10 := Lib.hid gM.size
  have HB := Lib.hid (Below.grown HB.out gM HB.out.size (fun k hk => Nat.le_trans (by have h0 := KZ0.out; have h1 := KZ1.out; have h2 := Sw2.out; have h3 := Sw4.out; have h4 := Sw5.out; first | omega | (simp at *; omega)) (Lb.out k hk).1))
  have K0 := Lib.hid (MBox.marked K0.out gM (fun k hk => Nat.lt_of_lt_of_le (by have h0 := KZ0.out; have h1 := KZ1.out; have h2 := Sw2.out; have h3 := Sw4.out; have h4 := Sw5.out; first | omega | (simp at *; omega)) (Lb.out k hk).1))
  have K1 := Lib.hid (Box.marked K1.out gM (fun k hk => Nat.lt_of_lt_of_le (by have h0 := KZ0.out; have h1 := KZ1.out; have h2 := Sw2.out; have h3 := Sw4.out; have h4 := Sw5.out; first | omega | (simp at *; omega)) (Lb.out k hk).1))
  have Oa := Lib.hid (OwnI.stay Oa.out gM La.out Lb.out (by have h0 := KZ0.out; have h1 := KZ1.out; have h2 := Sw2.out; have h3 := Sw4.out; have h4 := Sw5.out; first | omega | (simp at *; omega)))
  have Ob := Lib.hid oM
  have Ra := Lib.hid (OwnI.rd Oa.out)
  clear oM gM
  go_wp2_with fail
  refine ((held_ints (.slice pb m cb) _ 1 m _ (by have := HL.out; omega) Ob.out)).mono ?_
  rintro e w11 ⟨rfl, b⟩
  have Sw11 := Lib.hid b.size
  have HB := Lib.hid (chain0 (w := w) (by repeat (first | with_reducible exact Below.refl _ _ | with_reducible exact HB.out | with_reducible apply Below.drew | with_reducible apply bdN | with_reducible refine Below.alloc ?_ (by first | exact Nat.le_refl _ | with_reducible exact HB.out.size | omega | (simp; done) | (simp; omega) | (have := HB.out.size; simp at *; omega)) _ | with_reducible refine Below.setCell ?_ (by first | exact Nat.le_refl _ | with_reducible exact HB.out.size | omega | (simp; done) | (simp; omega) | (have := HB.out.size; simp at *; omega)) _)) b)
  have K0 := Lib.hid (MBox.below (by repeat (first | with_reducible exact K0.out | with_reducible apply MBox.drewN | with_reducible apply MBox.drew | with_reducible apply MBox.alloc)) b)
  have K1 := Lib.hid (Box.below (by repeat (first | with_reducible exact K1.out | with_reducible apply Box.drewN | with_reducible apply Box.drew | with_reducible apply Box.alloc)) b)
  have Oa := Lib.hid (OwnI.below (by repeat (first | with_reducible exact Oa.out | with_reducible apply OwnI.drewN | with_reducible apply OwnI.drew | with_reducible apply OwnI.alloc)) b)
  have Ob := Lib.hid (OwnI.below (by repeat (first | with_reducible exact Ob.out | with_reducible apply OwnI.drewN | with_reducible apply OwnI.drew | with_reducible apply OwnI.alloc)) b)
  have Ra := Lib.hid (Rd.below (by repeat (first | with_reducible exact Ra.out | with_reducible apply Rd.drewN | with_reducible apply Rd.drew | with_reducible apply Rd.alloc)) b)
  clear b
  go_upto_region 13 with fail
  refine region_BI [(true, 0), (true, 2), (false, 1), (false, 3), (false, 4), (true, 5), (true, 6), (true, 7), (true, 8), (true, 9)] (by kernel_rfl) rfl (by kernel_rfl) ?_
  refine chain_load 50 rfl rfl rfl 26 _ rfl rfl a0.vals (fun w h => MBox.below K0.out h) Try.underlying26 rfl (by kernel_rfl) ?_
  refine chain_load 52 rfl rfl rfl 22 _ rfl rfl #[.int .i64 a1.a, .int .i64 a1.b, .int .i64 a1.c, .int .i64 a1.d] (fun w h => Box.below K1.out h) Try.underlying22 rfl (by kernel_rfl) ?_
  refine chain_call 51 rfl rfl rfl (fun w => by kernel_rfl) (fun w h => to_map a0 w) ?_
  refine chain_call 53 rfl rfl rfl (fun w => by kernel_rfl) (fun w h => to_a4 a1 w) ?_
  refine chain_callE 54 rfl rfl rfl (fun w => by kernel_rfl) (fun wy hy => (HI.out wy).mono ?_)
  rintro e wz ⟨u, rfl, ho, b⟩
  refine ⟨_, rfl, b, fun w' => BI w11 w' ∧ OwnI w' w11.heap.size u R, ⟨fun _ h => h.1, fun _ h => h.1.size, fun _ h => ⟨Below.alloc h.1 h.1.size _, h.2.alloc _⟩⟩, ⟨BI.next hy b, by first | exact OwnI.base ho hy.size | exact maps.OwnI.baseM ho hy.size⟩, ?_⟩
  clear ho b hy
  refine chain_pure 49 (v := .tuple #[u, .bool ok]) rfl rfl rfl (fun w => by kernel_rfl) ?_
  refine chain_pure 55 (v := u) rfl rfl rfl (fun w => by kernel_rfl) ?_
  refine chain_pure 56 (v := .bool ok) rfl rfl rfl (fun w => by kernel_rfl) ?_
  refine chain_pure 11 (v := u) rfl rfl rfl (fun w => by kernel_rfl) ?_
  refine chain_pure 12 (v := .bool ok) rfl rfl rfl (fun w => by kernel_rfl) ?_
  clear wy wz
  rintro w13 ⟨b, oc⟩
  have Sw13 := Lib.hid b.size
  obtain ⟨pc, cc, rfl, hcc, rc, _⟩ := oc.form
  rw [HMm.out] at oc hcc ⊢
  have Lc := Lib.hid oc.span
  simp only [Act.put, List.setIfInBounds_toArray, List.set_cons_zero, List.set_cons_succ]
  have K0 := Lib.hid (MBox.below K0.out b)
  have K1 := Lib.hid (Box.below K1.out b)
  have Oa := Lib.hid (OwnI.below Oa.out b)
  have Ra := Lib.hid (Rd.below Ra.out b)
  have Ob := Lib.hid (OwnI.below Ob.out b)
  have HB := Lib.hid (chain0 HB.out b)
  have Oc := Lib.hid oc
  have Rc := Lib.hid rc
  clear b oc rc
  go_wp2_with fail
  refine ((eq_ints R pc pa m cc ca _ HMm.out (by have := HL.out; omega) Rc.out Ra.out)).mono ?_
  rintro e w14 ⟨rfl, b⟩
  have Sw14 := Lib.hid b.size
  have HB := Lib.hid (chain0 (w := w) (by repeat (first | with_reducible exact Below.refl _ _ | with_reducible exact HB.out | with_reducible apply Below.drew | with_reducible apply bdN | with_reducible refine Below.alloc ?_ (by first | exact Nat.le_refl _ | with_reducible exact HB.out.size | omega | (simp; done) | (simp; omega) | (have := HB.out.size; simp at *; omega)) _ | with_reducible refine Below.setCell ?_ (by first | exact Nat.le_refl _ | with_reducible exact HB.out.size | omega | (simp; done) | (simp; omega) | (have := HB.out.size; simp at *; omega)) _)) b)
  have K0 := Lib.hid (MBox.below (by repeat (first | with_reducible exact K0.out | with_reducible apply MBox.drewN | with_reducible apply MBox.drew | with_reducible apply MBox.alloc)) b)
  have K1 := Lib.hid (Box.below (by repeat (first | with_reducible exact K1.out | with_reducible apply Box.drewN | with_reducible apply Box.drew | with_reducible apply Box.alloc)) b)
  have Oa := Lib.hid (OwnI.below (by repeat (first | with_reducible exact Oa.out | with_reducible apply OwnI.drewN | with_reducible apply OwnI.drew | with_reducible apply OwnI.alloc)) b)
  have Ob := Lib.hid (OwnI.below (by repeat (first | with_reducible exact Ob.out | with_reducible apply OwnI.drewN | with_reducible apply OwnI.drew | with_reducible apply OwnI.alloc)) b)
  have Ra := Lib.hid (Rd.below (by repeat (first | with_reducible exact Ra.out | with_reducible apply Rd.drewN | with_reducible apply Rd.drew | with_reducible apply Rd.alloc)) b)
  have Oc := Lib.hid (OwnI.below (by repeat (first | with_reducible exact Oc.out | with_reducible apply OwnI.drewN | with_reducible apply OwnI.drew | with_reducible apply OwnI.alloc)) b)
  have Rc := Lib.hid (Rd.below (by repeat (first | with_reducible exact Rc.out | with_reducible apply Rd.drewN | with_reducible apply Rd.drew | with_reducible apply Rd.alloc)) b)
  clear b
  go_wp2_with fail
  refine ((held_ints (.slice pb m cb) _ 1 m _ (by have := HL.out; omega) Ob.out)).mono ?_
  rintro e w15 ⟨rfl, b⟩
  have Sw15 := Lib.hid b.size
  have HB := Lib.hid (chain0 (w := w) (by repeat (first | with_reducible exact Below.refl _ _ | with_reducible exact HB.out | with_reducible apply Below.drew | with_reducible apply bdN | with_reducible refine Below.alloc ?_ (by first | exact Nat.le_refl _ | with_reducible exact HB.out.size | omega | (simp; done) | (simp; omega) | (have := HB.out.size; simp at *; omega)) _ | with_reducible refine Below.setCell ?_ (by first | exact Nat.le_refl _ | with_reducible exact HB.out.size | omega | (simp; done) | (simp; omega) | (have := HB.out.size; simp at *; omega)) _)) b)
  have K0 := Lib.hid (MBox.below (by repeat (first | with_reducible exact K0.out | with_reducible apply MBox.drewN | with_reducible apply MBox.drew | with_reducible apply MBox.alloc)) b)
  have K1 := Lib.hid (Box.below (by repeat (first | with_reducible exact K1.out | with_reducible apply Box.drewN | with_reducible apply Box.drew | with_reducible apply Box.alloc)) b)
  have Oa := Lib.hid (OwnI.below (by repeat (first | with_reducible exact Oa.out | with_reducible apply OwnI.drewN | with_reducible apply OwnI.drew | with_reducible apply OwnI.alloc)) b)
  have Ob := Lib.hid (OwnI.below (by repeat (first | with_reducible exact Ob.out | with_reducible apply OwnI.drewN | with_reducible apply OwnI.drew | with_reducible apply OwnI.alloc)) b)
  have Ra := Lib.hid (Rd.below (by repeat (first | with_reducible exact Ra.out | with_reducible apply Rd.drewN | with_reducible apply Rd.drew | with_reducible apply Rd.alloc)) b)
  have Oc := Lib.hid (OwnI.below (by repeat (first | with_reducible exact Oc.out | with_reducible apply OwnI.drewN | with_reducible apply OwnI.drew | with_reducible apply OwnI.alloc)) b)
  have Rc := Lib.hid (Rd.below (by repeat (first | with_reducible exact Rc.out | with_reducible apply Rd.drewN | with_reducible apply Rd.drew | with_reducible apply Rd.alloc)) b)
  clear b
  go_wp2_with fail
  go_ret
  exact ⟨rfl, by repeat (first | with_reducible exact Below.refl _ _ | with_reducible exact HB.out | with_reducible apply Below.drew | with_reducible apply bdN | with_reducible refine Below.alloc ?_ (by first | exact Nat.le_refl _ | with_reducible exact HB.out.size | omega | (simp; done) | (simp; omega) | (have := HB.out.size; simp at *; omega)) _ | with_reducible refine Below.setCell ?_ (by first | exact Nat.le_refl _ | with_reducible exact HB.out.size | omega | (simp; done) | (simp; omega) | (have := HB.out.size; simp at *; omega)) _)⟩

theorem own : ownKnob Try.prog.godebug = none := by kernel_rfl
theorem laidOut : laidOutB Try.prog = true := by kernel_rfl
set_option maxRecDepth 100000 in
set_option maxHeartbeats 1000000 in
theorem lifted (os : Os) (started : os.Started) (H : Type) (enc : TypeId × Value → H) :
    ReturnsInHanded {} Try.checked os 11 .any (Rows.fnExactOrbitOfSpec.pre6 enc Try.prog Try.f11 Rows.fnExactOrbitOfRow.domain false) (Rows.fnExactOrbitOfSpec.post enc Try.prog Try.f11 false true false false) := by
  refine returnsInHanded_of_change (C := Try.checked) own started (by kernel_rfl) Try.func11
    (ChangeSpec.witness6 (enc := enc) (C := Try.checked) false ⟨#[], #[.agg #[.int .i64 0, .int .i64 0, .int .i64 0, .int .i64 0, .int .i64 0, .int .i64 0, .int .i64 0, .int .i64 0, .int .i64 0, .int .i64 0, .int .i64 0, .int .i64 0, .int .i64 0, .int .i64 0, .int .i64 0, .int .i64 0], .agg #[.int .i64 0, .int .i64 0, .int .i64 0, .int .i64 0]], []⟩ 8 (by kernel_rfl) (by kernel_rfl) (by kernel_rfl) (by kernel_rfl)) ?_
  intro W base args ds gs before hval0 hW hcnd _
  have hval : ∀ (j : Nat) t v, Try.f11.params[j]? = some t → args[j]? = some v → Value.okWide Try.prog W .any base t v := hval0
  have hW' := hW
  obtain ⟨p, q, hA0, hV, rfl, hfz, hnd⟩ := hW
  have hA : DataW.TrodAll enc Try.prog W 0 (fun _ => true) true Try.f11.params.toList args.toList ds p := hA0
  rw [Try.params11] at hA hval
  have hR := fun (W' : World) (hb : Below W.heap.size W W') => frame.still_all laidOut hb _ _ _ _ (by decide +kernel) hA
  obtain ⟨v0, vs0, d0, ds0, p0, q0, hargs, rfl, hp, h0, r0⟩ := trodAll_cons hA
  obtain ⟨v1, vs1, d1, ds1, p1, q1, rfl, rfl, hp1, h1, r1⟩ := trodAll_cons r0
  obtain ⟨rfl, rfl, hpn⟩ := trodAll_nil r1
  obtain rfl : args = #[v0, v1] := by cases args; simp_all
  obtain ⟨rfl, rfl⟩ := trodVars_none hV
  obtain ⟨a0, rfl⟩ := frame.open_map Try.underlying26 rfl rfl rfl rfl Try.underlying22 Try.underlying24 Try.underlying23 Try.underlying3 (by kernel_rfl) (by kernel_rfl) (by kernel_rfl) (by kernel_rfl) (by kernel_rfl) (hval 0 26 v0 rfl rfl) h0
  obtain ⟨a1, rfl⟩ := frame.open_a4 Try.underlying22 Try.underlying3 (by kernel_rfl) (by kernel_rfl) (hval 1 22 v1 rfl rfl) h1
  clear hA0 hval0
  simp only [List.append_nil] at hW'
  refine (walk a0 a1 W ).mono fun e W' ⟨he, hw⟩ => ?_
  subst he
  exact ⟨_, rfl, _, _, _, [], p, [], hW', trodAll_mk1 (shut_bool Try.underlying4 _), hR W' hw, rfl, hw.frame _, fun h => by cases h⟩

theorem over : Rows.fnExactOrbitOfRow.holds Try.pinned (OpenSpec.ofChange Rows.fnExactOrbitOfSpec) :=
  OpenClaim.holds_of_wide 11 Try.f11 rfl rfl rfl rfl rfl rfl rfl ⟨rfl, rfl, rfl, rfl, rfl⟩ rfl rfl rfl rfl rfl (by kernel_rfl) Try.func11 (by kernel_rfl)
    (of_decide_eq_true (by kernel_rfl)) (by unfold Func.isWrapper; first | (rw [if_pos (by decide +kernel)]; kernel_rfl) | (rw [if_neg (by decide +kernel)]; exact ⟨rfl, rfl⟩))
    (fun os started H enc _ => lifted os started H enc)

theorem proved : Rows.FnExactOrbitOfSaid := over
end Go.Proofs.Ytngfdfgeoieebaa.lawOrbitOf