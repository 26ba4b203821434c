/- FnExactIsMap: for every Map, valid or not, the law returns true and its argument reads as before. No condition. -/
import Derived.Test.YtngfdfgeoieebaaRows
import Derived.Test.YtngfdfgeoieebaaMg
import Derived.Test.YtngfdfgeoieebaaMe
namespace Go.Proofs.Ytngfdfgeoieebaa.lawIsMap
open Go.ChangeShapes Go.WideShapes Go.ChangeAt Go.RowKit
open Go.ChangeMaps (open_string shut_string)
open cards maps
set_option linter.unusedVariables false

set_option maxRecDepth 100000 in
set_option maxHeartbeats 4000000 in
theorem walk (m : Mp) (w : World) :
    Calls Try.prog 3 #[m.val] w fun e w' => e = .returned (.bool true) ∧ Below w.heap.size w w' := by
  go_enter Try.func3, Try.ntmps3
  obtain ⟨ok, hok⟩ : ∃ ok, m.ok = ok := ⟨_, rfl⟩
  have HS := Lib.hid (fun w => spec_ismap m w)
  have HI := Lib.hid (fun w => is_map m w)
  rw [hok] at HS HI
  clear hok
  have KI : Hid (MBox (w.alloc (Mv.obj ⟨26, m⟩)) w.heap.size ⟨26, m⟩) := Lib.hid (MBox.newAt rfl rfl)
  go_wp2_with ((with_reducible refine take_mapL rfl _ rfl KI.out ?_ ?_); rfl)
  go_wp2_with fail
  refine ((to_map m _)).mono ?_
  rintro e w1 ⟨rfl, b⟩
  have Sw1 := Lib.hid b.size
  have HB := Lib.hid (chain0 (w := w) (by repeat (first | with_reducible exact Below.refl _ _ | with_reducible exact HB.out | with_reducible apply Below.drew | with_reducible apply bdN | with_reducible refine Below.alloc ?_ (by first | exact Nat.le_refl _ | with_reducible exact HB.out.size | omega | (simp; done) | (simp; omega) | (have := HB.out.size; simp at *; omega)) _ | with_reducible refine Below.setCell ?_ (by first | exact Nat.le_refl _ | with_reducible exact HB.out.size | omega | (simp; done) | (simp; omega) | (have := HB.out.size; simp at *; omega)) _)) b)
  have K0 : Hid (MBox _ (w.heap.size) (⟨26, m⟩)) := Lib.hid (MBox.below (by repeat (first | with_reducible exact K0.out | with_reducible apply MBox.drewN | with_reducible apply MBox.drew | (with_reducible refine MBox.newAt ?_ ?_ <;> first | (simp; done) | rfl) | with_reducible apply MBox.alloc)) b)
  try clear k0a k0b k0c k0d k0e k0g k0h k0i k0j k0k k0l k0m k0n k0o k0p k0q k0z
  have k0z := K0.out.lt
  obtain ⟨k0a, k0b, k0c, k0d, k0e, k0g, k0h, k0i, k0j, k0k, k0l, k0m, k0n, k0o, k0p, k0q⟩ := K0.out.cell
  clear b
  go_wp2_with fail
  refine ((HS.out _)).mono ?_
  rintro e w2 ⟨rfl, b⟩
  have Sw2 := Lib.hid b.size
  have HB := Lib.hid (chain0 (w := w) (by repeat (first | with_reducible exact Below.refl _ _ | with_reducible exact HB.out | with_reducible apply Below.drew | with_reducible apply bdN | with_reducible refine Below.alloc ?_ (by first | exact Nat.le_refl _ | with_reducible exact HB.out.size | omega | (simp; done) | (simp; omega) | (have := HB.out.size; simp at *; omega)) _ | with_reducible refine Below.setCell ?_ (by first | exact Nat.le_refl _ | with_reducible exact HB.out.size | omega | (simp; done) | (simp; omega) | (have := HB.out.size; simp at *; omega)) _)) b)
  have K0 : Hid (MBox _ (w.heap.size) (⟨26, m⟩)) := Lib.hid (MBox.below (by repeat (first | with_reducible exact K0.out | with_reducible apply MBox.drewN | with_reducible apply MBox.drew | (with_reducible refine MBox.newAt ?_ ?_ <;> first | (simp; done) | rfl) | with_reducible apply MBox.alloc)) b)
  try clear k0a k0b k0c k0d k0e k0g k0h k0i k0j k0k k0l k0m k0n k0o k0p k0q k0z
  have k0z := K0.out.lt
  obtain ⟨k0a, k0b, k0c, k0d, k0e, k0g, k0h, k0i, k0j, k0k, k0l, k0m, k0n, k0o, k0p, k0q⟩ := K0.out.cell
  clear b
  clear KI
  go_wp2_with ((with_reducible refine take_mapL rfl _ rfl K0.out ?_ ?_); rfl)
  go_wp2_with fail
  refine ((to_map m _)).mono ?_
  rintro e w3 ⟨rfl, b⟩
  have Sw3 := Lib.hid b.size
  have HB := Lib.hid (chain0 (w := w) (by repeat (first | with_reducible exact Below.refl _ _ | with_reducible exact HB.out | with_reducible apply Below.drew | with_reducible apply bdN | with_reducible refine Below.alloc ?_ (by first | exact Nat.le_refl _ | with_reducible exact HB.out.size | omega | (simp; done) | (simp; omega) | (have := HB.out.size; simp at *; omega)) _ | with_reducible refine Below.setCell ?_ (by first | exact Nat.le_refl _ | with_reducible exact HB.out.size | omega | (simp; done) | (simp; omega) | (have := HB.out.size; simp at *; omega)) _)) b)
  have K0 : Hid (MBox _ (w.heap.size) (⟨26, m⟩)) := Lib.hid (MBox.below (by repeat (first | with_reducible exact K0.out | with_reducible apply MBox.drewN | with_reducible apply MBox.drew | (with_reducible refine MBox.newAt ?_ ?_ <;> first | (simp; done) | rfl) | with_reducible apply MBox.alloc)) b)
  try clear k0a k0b k0c k0d k0e k0g k0h k0i k0j k0k k0l k0m k0n k0o k0p k0q k0z
  have k0z := K0.out.lt
  obtain ⟨k0a, k0b, k0c, k0d, k0e, k0g, k0h, k0i, k0j, k0k, k0l, k0m, k0n, k0o, k0p, k0q⟩ := K0.out.cell
  clear b
  go_wp2_with fail
  refine ((HI.out _)).mono ?_
  rintro e w4 ⟨rfl, b⟩
  have Sw4 := Lib.hid b.size
  have HB := Lib.hid (chain0 (w := w) (by repeat (first | with_reducible exact Below.refl _ _ | with_reducible exact HB.out | with_reducible apply Below.drew | with_reducible apply bdN | with_reducible refine Below.alloc ?_ (by first | exact Nat.le_refl _ | with_reducible exact HB.out.size | omega | (simp; done) | (simp; omega) | (have := HB.out.size; simp at *; omega)) _ | with_reducible refine Below.setCell ?_ (by first | exact Nat.le_refl _ | with_reducible exact HB.out.size | omega | (simp; done) | (simp; omega) | (have := HB.out.size; simp at *; omega)) _)) b)
  have K0 : Hid (MBox _ (w.heap.size) (⟨26, m⟩)) := Lib.hid (MBox.below (by repeat (first | with_reducible exact K0.out | with_reducible apply MBox.drewN | with_reducible apply MBox.drew | (with_reducible refine MBox.newAt ?_ ?_ <;> first | (simp; done) | rfl) | with_reducible apply MBox.alloc)) b)
  try clear k0a k0b k0c k0d k0e k0g k0h k0i k0j k0k k0l k0m k0n k0o k0p k0q k0z
  have k0z := K0.out.lt
  obtain ⟨k0a, k0b, k0c, k0d, k0e, k0g, k0h, k0i, k0j, k0k, k0l, k0m, k0n, k0o, k0p, k0q⟩ := K0.out.cell
  clear b
  go_wp2_with fail
  go_ret
  exact ⟨rfl, by repeat (first | with_reducible exact Below.refl _ _ | with_reducible exact HB.out | with_reducible apply Below.drew | with_reducible apply bdN | with_reducible refine Below.alloc ?_ (by first | exact Nat.le_refl _ | with_reducible exact HB.out.size | omega | (simp; done) | (simp; omega) | (have := HB.out.size; simp at *; omega)) _ | with_reducible refine Below.setCell ?_ (by first | exact Nat.le_refl _ | with_reducible exact HB.out.size | omega | (simp; done) | (simp; omega) | (have := HB.out.size; simp at *; omega)) _)⟩

theorem own : ownKnob Try.prog.godebug = none := by kernel_rfl
theorem laidOut : laidOutB Try.prog = true := by kernel_rfl
set_option maxRecDepth 100000 in
set_option maxHeartbeats 1000000 in
theorem lifted (os : Os) (started : os.Started) (H : Type) (enc : TypeId × Value → H) :
    ReturnsInHanded {} Try.checked os 3 .any (Rows.fnExactIsMapSpec.pre6 enc Try.prog Try.f3 Rows.fnExactIsMapRow.domain false) (Rows.fnExactIsMapSpec.post enc Try.prog Try.f3 false true false false) := by
  refine returnsInHanded_of_change (C := Try.checked) own started (by kernel_rfl) Try.func3
    (ChangeSpec.witness6 (enc := enc) (C := Try.checked) false ⟨#[], #[.agg #[.int .i64 0, .int .i64 0, .int .i64 0, .int .i64 0, .int .i64 0, .int .i64 0, .int .i64 0, .int .i64 0, .int .i64 0, .int .i64 0, .int .i64 0, .int .i64 0, .int .i64 0, .int .i64 0, .int .i64 0, .int .i64 0]], []⟩ 8 (by kernel_rfl) (by kernel_rfl) (by kernel_rfl) (by kernel_rfl)) ?_
  intro W base args ds gs before hval0 hW hcnd _
  have hval : ∀ (j : Nat) t v, Try.f3.params[j]? = some t → args[j]? = some v → Value.okWide Try.prog W .any base t v := hval0
  have hW' := hW
  obtain ⟨p, q, hA0, hV, rfl, hfz, hnd⟩ := hW
  have hA : DataW.TrodAll enc Try.prog W 0 (fun _ => true) true Try.f3.params.toList args.toList ds p := hA0
  rw [Try.params3] at hA hval
  have hR := fun (W' : World) (hb : Below W.heap.size W W') => frame.still_all laidOut hb _ _ _ _ (by decide +kernel) hA
  obtain ⟨v0, vs0, d0, ds0, p0, q0, hargs, rfl, hp, h0, r0⟩ := trodAll_cons hA
  obtain ⟨rfl, rfl, hpn⟩ := trodAll_nil r0
  obtain rfl : args = #[v0] := by cases args; simp_all
  obtain ⟨rfl, rfl⟩ := trodVars_none hV
  obtain ⟨a0, rfl⟩ := frame.open_map Try.underlying26 rfl rfl rfl rfl Try.underlying22 Try.underlying24 Try.underlying23 Try.underlying3 (by kernel_rfl) (by kernel_rfl) (by kernel_rfl) (by kernel_rfl) (by kernel_rfl) (hval 0 26 v0 rfl rfl) h0
  clear hA0 hval0
  simp only [List.append_nil] at hW'
  refine (walk a0 W ).mono fun e W' ⟨he, hw⟩ => ?_
  subst he
  exact ⟨_, rfl, _, _, _, [], p, [], hW', trodAll_mk1 (shut_bool Try.underlying4 _), hR W' hw, rfl, hw.frame _, fun h => by cases h⟩

theorem over : Rows.fnExactIsMapRow.holds Try.pinned (OpenSpec.ofChange Rows.fnExactIsMapSpec) :=
  OpenClaim.holds_of_wide 3 Try.f3 rfl rfl rfl rfl rfl rfl rfl ⟨rfl, rfl, rfl, rfl, rfl⟩ rfl rfl rfl rfl rfl (by kernel_rfl) Try.func3 (by kernel_rfl)
    (of_decide_eq_true (by kernel_rfl)) (by unfold Func.isWrapper; first | (rw [if_pos (by decide +kernel)]; kernel_rfl) | (rw [if_neg (by decide +kernel)]; exact ⟨rfl, rfl⟩))
    (fun os started H enc _ => lifted os started H enc)

theorem proved : Rows.FnExactIsMapSaid := over
end Go.Proofs.Ytngfdfgeoieebaa.lawIsMap