/- FnExactIsGhost: for every list of cards, valid or not, the law returns true and its argument reads as before. No condition. -/
import Derived.Test.YtjmlefcmhjodeaaRows
import Derived.Test.YtjmlefcmhjodeaaFr
import Derived.Test.YtjmlefcmhjodeaaGIsGhost0
namespace Go.Proofs.Ytjmlefcmhjodeaa.lawIsGhost
open Go.ChangeShapes Go.WideShapes Go.ChangeAt Go.RowKit
open Go.ChangeMaps (open_string shut_string)
open cards others
set_option linter.unusedVariables false

set_option maxRecDepth 100000 in
set_option maxHeartbeats 2000000 in
theorem walk (p : Option Addr) (n c : Nat) (l : List Cd) (w : World) (hw : l.length = n ∧ n ≤ maxLen ∧ Rd w p (flat l)) :
    Calls Try.prog 12 #[.slice p n c] w fun e w' => e = .returned (.bool true) ∧ Below w.heap.size w w' := by
  obtain ⟨hn, hm, hr⟩ := hw
  have HN := Lib.hid hn
  have HM := Lib.hid hm
  have HR := Lib.hid hr
  clear hn hm hr
  by_cases hs : n ≤ 1048576
  · obtain ⟨z0, z1⟩ := szLeft_yes hs
    obtain ⟨R0, hR0⟩ : ∃ R0, (igR l).1 = R0 := ⟨_, rfl⟩
    obtain ⟨ok, hok⟩ : ∃ ok, (igR l).2 = ok := ⟨_, rfl⟩
    have HS := Lib.hid (fun p n c w a b d (e : n ≤ c) => spec_ig l p n c w a b d e)
    have HI := Lib.hid (fun p n c w a b d (e : n ≤ c) => impl_ig l p n c w a b d)
    rw [hR0] at HS HI
    rw [hok] at HS HI
    clear hR0 hok
    go_enter Try.func12, Try.ntmps12
    go_wp2_with fail
    refine (sz_hand p n c 1048576 _ (by omega) (by omega) HM.out).mono ?_
    rintro e w' ⟨rfl, rfl⟩
    go_wp2_with fail
    refine ((to_hand' l p n c _ HN.out (by omega) HR.out)).mono ?_
    rintro e w1 ⟨p1, c1, rfl, o1, r1, hc1, b⟩
    have Sw1 := Lib.hid b.size
    have L1 := Lib.hid o1.span
    have HB := Lib.hid (chain0 (w := w) (by repeat (first | with_reducible exact Below.refl _ _ | with_reducible exact HB.out | with_reducible apply Below.drew | with_reducible apply bdN | with_reducible refine Below.alloc ?_ (by first | exact Nat.le_refl _ | with_reducible exact HB.out.size | omega | (simp; done) | (simp; omega) | (have := HB.out.size; simp at *; omega)) _ | with_reducible refine Below.setCell ?_ (by first | exact Nat.le_refl _ | with_reducible exact HB.out.size | omega | (simp; done) | (simp; omega) | (have := HB.out.size; simp at *; omega)) _)) b)
    have Zw1 := Lib.hid HB.out.size
    have HR := Lib.hid (Rd.below (by repeat (first | with_reducible exact HR.out | with_reducible apply Rd.drewN | with_reducible apply Rd.drew | with_reducible apply Rd.alloc)) b)
    have O1 := Lib.hid o1
    have R1 := Lib.hid r1
    clear b o1 r1
    go_wp2_with fail
    refine ((HS.out p1 n c1 _ HN.out (by omega) R1.out hc1)).mono ?_
    rintro e w2 ⟨rfl, b⟩
    have Sw2 := Lib.hid b.size
    have HB := Lib.hid (chain0 (w := w) (by repeat (first | with_reducible exact Below.refl _ _ | with_reducible exact HB.out | with_reducible apply Below.drew | with_reducible apply bdN | with_reducible refine Below.alloc ?_ (by first | exact Nat.le_refl _ | with_reducible exact HB.out.size | omega | (simp; done) | (simp; omega) | (have := HB.out.size; simp at *; omega)) _ | with_reducible refine Below.setCell ?_ (by first | exact Nat.le_refl _ | with_reducible exact HB.out.size | omega | (simp; done) | (simp; omega) | (have := HB.out.size; simp at *; omega)) _)) b)
    have HR := Lib.hid (Rd.below (by repeat (first | with_reducible exact HR.out | with_reducible apply Rd.drewN | with_reducible apply Rd.drew | with_reducible apply Rd.alloc)) b)
    have O1 := Lib.hid (Own.below (by repeat (first | with_reducible exact O1.out | with_reducible apply Own.drewN | with_reducible apply Own.drew | with_reducible apply Own.alloc)) b)
    have R1 := Lib.hid (Rd.below (by repeat (first | with_reducible exact R1.out | with_reducible apply Rd.drewN | with_reducible apply Rd.drew | with_reducible apply Rd.alloc)) b)
    clear b
    go_wp2_with fail
    refine ((to_hand' l p n c _ HN.out (by omega) HR.out)).mono ?_
    rintro e w3 ⟨p2, c2, rfl, o2, r2, hc2, b⟩
    have Sw3 := Lib.hid b.size
    have L2 := Lib.hid o2.span
    have HB := Lib.hid (chain0 (w := w) (by repeat (first | with_reducible exact Below.refl _ _ | with_reducible exact HB.out | with_reducible apply Below.drew | with_reducible apply bdN | with_reducible refine Below.alloc ?_ (by first | exact Nat.le_refl _ | with_reducible exact HB.out.size | omega | (simp; done) | (simp; omega) | (have := HB.out.size; simp at *; omega)) _ | with_reducible refine Below.setCell ?_ (by first | exact Nat.le_refl _ | with_reducible exact HB.out.size | omega | (simp; done) | (simp; omega) | (have := HB.out.size; simp at *; omega)) _)) b)
    have Zw3 := Lib.hid HB.out.size
    have HR := Lib.hid (Rd.below (by repeat (first | with_reducible exact HR.out | with_reducible apply Rd.drewN | with_reducible apply Rd.drew | with_reducible apply Rd.alloc)) b)
    have O1 := Lib.hid (Own.below (by repeat (first | with_reducible exact O1.out | with_reducible apply Own.drewN | with_reducible apply Own.drew | with_reducible apply Own.alloc)) b)
    have R1 := Lib.hid (Rd.below (by repeat (first | with_reducible exact R1.out | with_reducible apply Rd.drewN | with_reducible apply Rd.drew | with_reducible apply Rd.alloc)) b)
    have O2 := Lib.hid o2
    have R2 := Lib.hid r2
    clear b o2 r2
    go_wp2_with fail
    refine ((HI.out p2 n c2 _ HN.out (by omega) R2.out hc2)).mono ?_
    rintro e w4 ⟨rfl, b⟩
    have Sw4 := Lib.hid b.size
    have HB := Lib.hid (chain0 (w := w) (by repeat (first | with_reducible exact Below.refl _ _ | with_reducible exact HB.out | with_reducible apply Below.drew | with_reducible apply bdN | with_reducible refine Below.alloc ?_ (by first | exact Nat.le_refl _ | with_reducible exact HB.out.size | omega | (simp; done) | (simp; omega) | (have := HB.out.size; simp at *; omega)) _ | with_reducible refine Below.setCell ?_ (by first | exact Nat.le_refl _ | with_reducible exact HB.out.size | omega | (simp; done) | (simp; omega) | (have := HB.out.size; simp at *; omega)) _)) b)
    have HR := Lib.hid (Rd.below (by repeat (first | with_reducible exact HR.out | with_reducible apply Rd.drewN | with_reducible apply Rd.drew | with_reducible apply Rd.alloc)) b)
    have O1 := Lib.hid (Own.below (by repeat (first | with_reducible exact O1.out | with_reducible apply Own.drewN | with_reducible apply Own.drew | with_reducible apply Own.alloc)) b)
    have R1 := Lib.hid (Rd.below (by repeat (first | with_reducible exact R1.out | with_reducible apply Rd.drewN | with_reducible apply Rd.drew | with_reducible apply Rd.alloc)) b)
    have O2 := Lib.hid (Own.below (by repeat (first | with_reducible exact O2.out | with_reducible apply Own.drewN | with_reducible apply Own.drew | with_reducible apply Own.alloc)) b)
    have R2 := Lib.hid (Rd.below (by repeat (first | with_reducible exact R2.out | with_reducible apply Rd.drewN | with_reducible apply Rd.drew | with_reducible apply Rd.alloc)) b)
    clear b
    go_wp2_with fail
    refine ((to_hand' l p n c _ HN.out (by omega) HR.out)).mono ?_
    rintro e w5 ⟨p3, c3, rfl, o3, r3, hc3, b⟩
    have Sw5 := Lib.hid b.size
    have L3 := Lib.hid o3.span
    have HB := Lib.hid (chain0 (w := w) (by repeat (first | with_reducible exact Below.refl _ _ | with_reducible exact HB.out | with_reducible apply Below.drew | with_reducible apply bdN | with_reducible refine Below.alloc ?_ (by first | exact Nat.le_refl _ | with_reducible exact HB.out.size | omega | (simp; done) | (simp; omega) | (have := HB.out.size; simp at *; omega)) _ | with_reducible refine Below.setCell ?_ (by first | exact Nat.le_refl _ | with_reducible exact HB.out.size | omega | (simp; done) | (simp; omega) | (have := HB.out.size; simp at *; omega)) _)) b)
    have Zw5 := Lib.hid HB.out.size
    have HR := Lib.hid (Rd.below (by repeat (first | with_reducible exact HR.out | with_reducible apply Rd.drewN | with_reducible apply Rd.drew | with_reducible apply Rd.alloc)) b)
    have O1 := Lib.hid (Own.below (by repeat (first | with_reducible exact O1.out | with_reducible apply Own.drewN | with_reducible apply Own.drew | with_reducible apply Own.alloc)) b)
    have R1 := Lib.hid (Rd.below (by repeat (first | with_reducible exact R1.out | with_reducible apply Rd.drewN | with_reducible apply Rd.drew | with_reducible apply Rd.alloc)) b)
    have O2 := Lib.hid (Own.below (by repeat (first | with_reducible exact O2.out | with_reducible apply Own.drewN | with_reducible apply Own.drew | with_reducible apply Own.alloc)) b)
    have R2 := Lib.hid (Rd.below (by repeat (first | with_reducible exact R2.out | with_reducible apply Rd.drewN | with_reducible apply Rd.drew | with_reducible apply Rd.alloc)) b)
    have O3 := Lib.hid o3
    have R3 := Lib.hid r3
    clear b o3 r3
    go_wp2_with fail
    refine ((eq_hand l p2 p3 n c2 c3 _ HN.out (by omega) R2.out R3.out)).mono ?_
    rintro e w6 ⟨rfl, b⟩
    have Sw6 := Lib.hid b.size
    have HB := Lib.hid (chain0 (w := w) (by repeat (first | with_reducible exact Below.refl _ _ | with_reducible exact HB.out | with_reducible apply Below.drew | with_reducible apply bdN | with_reducible refine Below.alloc ?_ (by first | exact Nat.le_refl _ | with_reducible exact HB.out.size | omega | (simp; done) | (simp; omega) | (have := HB.out.size; simp at *; omega)) _ | with_reducible refine Below.setCell ?_ (by first | exact Nat.le_refl _ | with_reducible exact HB.out.size | omega | (simp; done) | (simp; omega) | (have := HB.out.size; simp at *; omega)) _)) b)
    have HR := Lib.hid (Rd.below (by repeat (first | with_reducible exact HR.out | with_reducible apply Rd.drewN | with_reducible apply Rd.drew | with_reducible apply Rd.alloc)) b)
    have O1 := Lib.hid (Own.below (by repeat (first | with_reducible exact O1.out | with_reducible apply Own.drewN | with_reducible apply Own.drew | with_reducible apply Own.alloc)) b)
    have R1 := Lib.hid (Rd.below (by repeat (first | with_reducible exact R1.out | with_reducible apply Rd.drewN | with_reducible apply Rd.drew | with_reducible apply Rd.alloc)) b)
    have O2 := Lib.hid (Own.below (by repeat (first | with_reducible exact O2.out | with_reducible apply Own.drewN | with_reducible apply Own.drew | with_reducible apply Own.alloc)) b)
    have R2 := Lib.hid (Rd.below (by repeat (first | with_reducible exact R2.out | with_reducible apply Rd.drewN | with_reducible apply Rd.drew | with_reducible apply Rd.alloc)) b)
    have O3 := Lib.hid (Own.below (by repeat (first | with_reducible exact O3.out | with_reducible apply Own.drewN | with_reducible apply Own.drew | with_reducible apply Own.alloc)) b)
    have R3 := Lib.hid (Rd.below (by repeat (first | with_reducible exact R3.out | with_reducible apply Rd.drewN | with_reducible apply Rd.drew | with_reducible apply Rd.alloc)) b)
    clear b
    go_wp2_with fail
    go_ret
    exact ⟨rfl, by repeat (first | with_reducible exact Below.refl _ _ | with_reducible exact HB.out | with_reducible apply Below.drew | with_reducible apply bdN | with_reducible refine Below.alloc ?_ (by first | exact Nat.le_refl _ | with_reducible exact HB.out.size | omega | (simp; done) | (simp; omega) | (have := HB.out.size; simp at *; omega)) _ | with_reducible refine Below.setCell ?_ (by first | exact Nat.le_refl _ | with_reducible exact HB.out.size | omega | (simp; done) | (simp; omega) | (have := HB.out.size; simp at *; omega)) _)⟩
  · have z0 := szLeft_no hs
    go_enter Try.func12, Try.ntmps12
    go_wp2_with fail
    refine (sz_hand p n c 1048576 _ (by omega) (by omega) HM.out).mono ?_
    rintro e w' ⟨rfl, rfl⟩
    go_wp2_with fail
    go_ret
    exact ⟨rfl, by repeat (first | with_reducible exact Below.refl _ _ | with_reducible exact HB.out | with_reducible apply Below.drew | with_reducible apply bdN | with_reducible refine Below.alloc ?_ (by first | exact Nat.le_refl _ | with_reducible exact HB.out.size | omega | (simp; done) | (simp; omega) | (have := HB.out.size; simp at *; omega)) _ | with_reducible refine Below.setCell ?_ (by first | exact Nat.le_refl _ | with_reducible exact HB.out.size | omega | (simp; done) | (simp; omega) | (have := HB.out.size; simp at *; omega)) _)⟩

theorem own : ownKnob Try.prog.godebug = none := by kernel_rfl
theorem laidOut : laidOutB Try.prog = true := by kernel_rfl
set_option maxRecDepth 100000 in
set_option maxHeartbeats 1000000 in
theorem lifted (os : Os) (started : os.Started) (H : Type) (enc : TypeId × Value → H) :
    ReturnsInHanded {} Try.checked os 12 .any (Rows.fnExactIsGhostSpec.pre6 enc Try.prog Try.f12 Rows.fnExactIsGhostRow.domain false) (Rows.fnExactIsGhostSpec.post enc Try.prog Try.f12 false true false false) := by
  refine returnsInHanded_of_change (C := Try.checked) own started (by kernel_rfl) Try.func12
    (ChangeSpec.witness6 (enc := enc) (C := Try.checked) false ⟨#[], #[.slice none 0 0], []⟩ 8 (by kernel_rfl) (by kernel_rfl) (by kernel_rfl) (by kernel_rfl)) ?_
  intro W base args ds gs before hval0 hW hcnd _
  have hval : ∀ (j : Nat) t v, Try.f12.params[j]? = some t → args[j]? = some v → Value.okWide Try.prog W .any base t v := hval0
  have hW' := hW
  obtain ⟨p, q, hA0, hV, rfl, hfz, hnd⟩ := hW
  have hA : DataW.TrodAll enc Try.prog W 0 (fun _ => true) true Try.f12.params.toList args.toList ds p := hA0
  rw [Try.params12] at hA hval
  have hR := fun (W' : World) (hb : Below W.heap.size W W') => frame.still_all laidOut hb _ _ _ _ (by decide +kernel) hA
  obtain ⟨v0, vs0, d0, ds0, p0, q0, hargs, rfl, hp, h0, r0⟩ := trodAll_cons hA
  obtain ⟨rfl, rfl, hpn⟩ := trodAll_nil r0
  obtain rfl : args = #[v0] := by cases args; simp_all
  obtain ⟨rfl, rfl⟩ := trodVars_none hV
  obtain ⟨b0, n0, c0, l0, rfl, w0⟩ := frame.open_hand Try.underlying26 Try.underlying25 Try.underlying3 (by kernel_rfl) (by kernel_rfl) (hval 0 26 v0 rfl rfl) h0
  clear hA0 hval0
  simp only [List.append_nil] at hW'
  refine (walk b0 n0 c0 l0 W w0).mono fun e W' ⟨he, hw⟩ => ?_
  subst he
  exact ⟨_, rfl, _, _, _, [], p, [], hW', trodAll_mk1 (shut_bool Try.underlying4 _), hR W' hw, rfl, hw.frame _, fun h => by cases h⟩

theorem over : Rows.fnExactIsGhostRow.holds Try.pinned (OpenSpec.ofChange Rows.fnExactIsGhostSpec) :=
  OpenClaim.holds_of_wide 12 Try.f12 rfl rfl rfl rfl rfl rfl rfl ⟨rfl, rfl, rfl, rfl, rfl⟩ rfl rfl rfl rfl rfl (by kernel_rfl) Try.func12 (by kernel_rfl)
    (of_decide_eq_true (by kernel_rfl)) (by unfold Func.isWrapper; first | (rw [if_pos (by decide +kernel)]; kernel_rfl) | (rw [if_neg (by decide +kernel)]; exact ⟨rfl, rfl⟩))
    (fun os started H enc _ => lifted os started H enc)

theorem proved : Rows.FnExactIsGhostSaid := over
end Go.Proofs.Ytjmlefcmhjodeaa.lawIsGhost