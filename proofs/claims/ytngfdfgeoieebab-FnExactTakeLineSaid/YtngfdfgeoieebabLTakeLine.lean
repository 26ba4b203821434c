/- FnExactTakeLine: for every Deal and all three places, valid or not, the law returns true and its arguments read as before. No condition. -/
import Derived.Test.YtngfdfgeoieebabRows
import Derived.Test.YtngfdfgeoieebabQf
import Derived.Test.YtngfdfgeoieebabUf
import Derived.Test.YtngfdfgeoieebabUd
import Derived.Test.YtngfdfgeoieebabRd
import Derived.Deep.DeepCutAuto
import Derived.Deep.RegionLaw
namespace Go.Proofs.Ytngfdfgeoieebab.lawTakeLine
open Go.ChangeShapes Go.WideShapes Go.ChangeAt Go.RowKit
open Go.ChangeMaps (open_string shut_string)
open cards deal reg
set_option linter.unusedVariables false

theorem szA {a b c d e f g : Nat} (h1 : a ≤ b) (h2 : b ≤ c) (h3 : c ≤ d) (h4 : d ≤ e) (h5 : e ≤ f) (h6 : f ≤ g) : a ≤ g := by omega
set_option maxRecDepth 100000 in
set_option maxHeartbeats 8000000 in
theorem walk (s nx : Int) (p : Option Addr) (n c : Nat) (l : List Cd) (t : A3) (w : World) (hw : l.length = n ∧ n ≤ maxLen ∧ Rd w p (flat l) ∧ (∀ x ∈ l, wfc x) ∧ (Lit.int .i64 s).wf = true ∧ (Lit.int .i64 nx).wf = true) (hw3 : wf3 t) :
    Calls Try.prog 6 #[dval s nx (.slice p n c), t.val] w fun e w' => e = .returned (.bool true) ∧ Below w.heap.size w w' := by
  obtain ⟨hn, hm, hr, hwf, _, _⟩ := hw
  have HN := Lib.hid hn
  have HM := Lib.hid hm
  have HR := Lib.hid hr
  have HR0 := Lib.hid hr
  have HW := Lib.hid hwf
  clear hn hm hr hwf
  by_cases hs : ¬ n ≤ 1048576
  · have z0 := szLeft_no hs
    go_enter Try.func6, Try.ntmps6
    go_wp2_with fail
    refine ((sz_deal s nx p n c 1048576 _ (by omega) (by omega) HM.out)).mono ?_
    rintro e w0 ⟨rfl, b⟩
    have Sw0 := Lib.hid b.size
    have HB := Lib.hid (chain0 (w := w) (by repeat (first | with_reducible exact Below.refl _ _ | with_reducible exact HB.out | with_reducible apply Below.drew | with_reducible apply bdN | with_reducible refine Below.alloc ?_ (by first | exact Nat.le_refl _ | with_reducible exact HB.out.size | omega | (simp; done) | (simp; omega) | (have := HB.out.size; simp at *; omega)) _ | with_reducible refine Below.setCell ?_ (by first | exact Nat.le_refl _ | with_reducible exact HB.out.size | omega | (simp; done) | (simp; omega) | (have := HB.out.size; simp at *; omega)) _)) b)
    clear b
    go_wp2_with fail
    go_ret
    exact ⟨rfl, by repeat (first | with_reducible exact Below.refl _ _ | with_reducible exact HB.out | with_reducible apply Below.drew | with_reducible apply bdN | with_reducible refine Below.alloc ?_ (by first | exact Nat.le_refl _ | with_reducible exact HB.out.size | omega | (simp; done) | (simp; omega) | (have := HB.out.size; simp at *; omega)) _ | with_reducible refine Below.setCell ?_ (by first | exact Nat.le_refl _ | with_reducible exact HB.out.size | omega | (simp; done) | (simp; omega) | (have := HB.out.size; simp at *; omega)) _)⟩
  · obtain ⟨z0, z1⟩ := szLeft_yes (Nat.le_of_not_lt (fun h => hs (Nat.not_le_of_lt h)))
    have hs : n ≤ 1048576 := Nat.le_of_not_lt (fun h => hs (Nat.not_le_of_lt h))
    have HL : Hid ((tlR ⟨s, nx, l⟩ t).1.l.length ≤ 100000000) := Lib.hid (Nat.le_trans (tlR_len _ _) (by omega))
    have HS := Lib.hid (fun p n c B w a b o => spec_tl s nx l t p n c B w a b o HW.out hw3)
    have HI := Lib.hid (fun p n c B w a b o => impl_tl s nx l t p n c B w a b o HW.out hw3)
    obtain ⟨s1, hs1⟩ : ∃ s1, (tlR ⟨s, nx, l⟩ t).1.s = s1 := ⟨_, rfl⟩
    obtain ⟨n1, hn1⟩ : ∃ n1, (tlR ⟨s, nx, l⟩ t).1.nx = n1 := ⟨_, rfl⟩
    obtain ⟨R, hR⟩ : ∃ R, (tlR ⟨s, nx, l⟩ t).1.l = R := ⟨_, rfl⟩
    obtain ⟨ok, hok⟩ : ∃ ok, (tlR ⟨s, nx, l⟩ t).2 = ok := ⟨_, rfl⟩
    rw [hR] at HL
    rw [hR, hok, hs1, hn1] at HS HI
    clear hR hok hs1 hn1
    obtain ⟨m, hm⟩ : ∃ m, R.length = m := ⟨_, rfl⟩
    have HMm := Lib.hid hm
    rw [hm] at HL
    clear hm
    have K1 : Hid (TBox ((w.alloc (Dv.mk 73 s nx (.slice p n c)).obj).alloc t.obj) (w.heap.size + 1) t) := Lib.hid (TBox.newAt (by simp) rfl)
    go_enter Try.func6, Try.ntmps6
    go_wp2_with fail
    refine ((sz_deal s nx p n c 1048576 _ (by omega) (by omega) HM.out)).mono ?_
    rintro e w0 ⟨rfl, b⟩
    have Sw0 := Lib.hid b.size
    have HB := Lib.hid (chain0 (w := w) (by repeat (first | with_reducible exact Below.refl _ _ | with_reducible exact HB.out | with_reducible apply Below.drew | with_reducible apply bdN | with_reducible refine Below.alloc ?_ (by first | exact Nat.le_refl _ | with_reducible exact HB.out.size | omega | (simp; done) | (simp; omega) | (have := HB.out.size; simp at *; omega)) _ | with_reducible refine Below.setCell ?_ (by first | exact Nat.le_refl _ | with_reducible exact HB.out.size | omega | (simp; done) | (simp; omega) | (have := HB.out.size; simp at *; omega)) _)) b)
    have HR := Lib.hid (Rd.below (by repeat (first | with_reducible exact HR.out | with_reducible apply Rd.drewN | with_reducible apply Rd.drew | with_reducible apply Rd.alloc)) b)
    have K1 := Lib.hid (TBox.below (by repeat (first | with_reducible exact K1.out | with_reducible apply TBox.drewN | with_reducible apply TBox.drew | with_reducible apply TBox.alloc)) b)
    have K0 : Hid (DBox _ (w.heap.size) (⟨73, s, nx, .slice p n c⟩)) := Lib.hid (DBox.below (by repeat (first | with_reducible exact K0.out | with_reducible apply DBox.drewN | with_reducible apply DBox.drew | (with_reducible refine DBox.newAt ?_ ?_ <;> first | (simp; done) | rfl) | with_reducible apply DBox.alloc)) b)
    try clear k0a k0b k0c k0d k0z
    have k0z := K0.out.lt
    obtain ⟨k0a, k0b, k0c, k0d⟩ := K0.out.cell
    clear b
    go_upto_region 5 with fail
    refine region_deal [(true, 0), (true, 2), (false, 1), (false, 3), (false, 4), (true, 5), (true, 6), (true, 7)] 8 9 6 [(10, 7, 28)] _ _ 27 (by kernel_rfl) rfl rfl (by kernel_rfl) rfl rfl rfl rfl rfl rfl rfl rfl (by decide) (of_decide_eq_true rfl) ?_
    refine chain_load 22 rfl rfl rfl 73 _ rfl rfl #[.int .i64 s, .int .i64 nx, .slice p n c] (fun w h => DBox.below K0.out h) Try.underlying73 rfl (by kernel_rfl) ?_
    refine chain_load 24 rfl rfl rfl 25 _ rfl rfl #[.int .i64 t.a, .int .i64 t.b, .int .i64 t.c] (fun w h => TBox.below K1.out h) Try.underlying25 rfl (by kernel_rfl) ?_
    refine chain_callE 23 rfl rfl rfl (fun w => by kernel_rfl) (fun wy hy => (to_deal s nx l p n c wy HN.out (by omega) (HR.out.below hy)).mono ?_)
    rintro e wz ⟨p1, c1, rfl, o1, r1, hc1, b⟩
    refine ⟨_, rfl, b, fun w' => BI w0 w' ∧ Own w' w0.heap.size (.slice p1 n c1) l, ⟨fun _ h => h.1, fun _ h => h.1.size, fun _ h => ⟨Below.alloc h.1 h.1.size _, h.2.alloc _⟩⟩, ⟨BI.next hy b, o1.base hy.size⟩, ?_⟩
    clear b r1 o1 hy
    refine chain_callE 25 rfl rfl rfl (fun w => by kernel_rfl) (fun wy hy => (to_a3 t wy).mono ?_)
    rintro e wz ⟨rfl, b⟩
    refine ⟨_, rfl, b, fun w' => BI w0 w' ∧ Own w' w0.heap.size (.slice p1 n c1) l, ⟨fun _ h => h.1, fun _ h => h.1.size, fun _ h => ⟨Below.alloc h.1 h.1.size _, h.2.alloc _⟩⟩, ⟨BI.next hy.1 b, Own.below hy.2 b⟩, ?_⟩
    clear b hy
    refine chain_callE 26 rfl rfl rfl (fun w => by kernel_rfl) (fun wy hy => (HS.out p1 n c1 _ wy HN.out (by omega) hy.2).mono ?_)
    rintro e wz ⟨va, rfl, oa, b⟩
    obtain ⟨pa, ca, rfl, hca, -⟩ := oa.form
    rw [HMm.out] at oa hca ⊢
    refine ⟨_, rfl, b, fun w' => BI w0 w' ∧ Own w' w0.heap.size (.slice pa m ca) R, ⟨fun _ h => h.1, fun _ h => h.1.size, fun _ h => ⟨Below.alloc h.1 h.1.size _, h.2.alloc _⟩⟩, ⟨BI.next hy.1 b, oa.base hy.1.size⟩, ?_⟩
    clear b hy oa
    refine chain_pure 21 (v := .tuple #[dval s1 n1 (.slice pa m ca), .bool ok]) rfl rfl rfl (fun w => by kernel_rfl) ?_
    refine chain_pure 27 (v := dval s1 n1 (.slice pa m ca)) rfl rfl rfl (fun w => by kernel_rfl) ?_
    refine chain_pure 28 (v := .bool ok) rfl rfl rfl (fun w => by kernel_rfl) ?_
    refine ⟨s1, n1, .slice pa m ca, by kernel_rfl, rfl, by kernel_rfl, ?_⟩
    clear wy wz
    intro wq w2 g6 hI hg hb hG hD
    refine ⟨_, ⟨.bool ok, by kernel_rfl, rfl⟩, ?_⟩
    simp only [Act.put, List.setIfInBounds_toArray, List.set_cons_zero, List.set_cons_succ]
    have b : Below w0.heap.size w0 w2 := Below.grown hI.1 hG hI.1.size (fun k hk => by injection hk with hk; omega)
    have HOF6 := Lib.hid (own_apart hI.2 hb)
    have Oa := Lib.hid (own_grown hI.2 hG (fun q e e2 => own_apart hI.2 hb q e (by injection e2 with e2; exact e2.symm)))
    have La := Lib.hid Oa.out.span
    have Ra := Lib.hid Oa.out.rd
    have K6 := Lib.hid hD
    have GE6 := Lib.hid hg
    clear hI hg hb hG hD wq
    unfold ptr
    have Sw2 := Lib.hid b.size
    have HB := Lib.hid (chain0 (w := w) (by repeat (first | with_reducible exact Below.refl _ _ | with_reducible exact HB.out | with_reducible apply Below.drew | with_reducible apply bdN | with_reducible refine Below.alloc ?_ (by first | exact Nat.le_refl _ | with_reducible exact HB.out.size | omega | (simp; done) | (simp; omega) | (have := HB.out.size; simp at *; omega)) _ | with_reducible refine Below.setCell ?_ (by first | exact Nat.le_refl _ | with_reducible exact HB.out.size | omega | (simp; done) | (simp; omega) | (have := HB.out.size; simp at *; omega)) _)) b)
    have HR := Lib.hid (Rd.below (by repeat (first | with_reducible exact HR.out | with_reducible apply Rd.drewN | with_reducible apply Rd.drew | with_reducible apply Rd.alloc)) b)
    have K1 := Lib.hid (TBox.below (by repeat (first | with_reducible exact K1.out | with_reducible apply TBox.drewN | with_reducible apply TBox.drew | with_reducible apply TBox.alloc)) b)
    have K0 : Hid (DBox _ (w.heap.size) (⟨73, s, nx, .slice p n c⟩)) := Lib.hid (DBox.below (by repeat (first | with_reducible exact K0.out | with_reducible apply DBox.drewN | with_reducible apply DBox.drew | (with_reducible refine DBox.newAt ?_ ?_ <;> first | (simp; done) | rfl) | with_reducible apply DBox.alloc)) b)
    try clear k0a k0b k0c k0d k0z
    have k0z := K0.out.lt
    obtain ⟨k0a, k0b, k0c, k0d⟩ := K0.out.cell
    clear b
    obtain ⟨k6a, k6b, k6c, k6d⟩ := K6.out.cell
    have k6z := K6.out.lt
    have G6 := Lib.hid k6z
    have Yw3K0 := Lib.hid K0.out.lt
    have Yw3K6 := Lib.hid K6.out.lt
    go_wp2_with fail
    refine ((to_deal s nx l p n c _ HN.out (by omega) HR.out)).mono ?_
    rintro e w3 ⟨p2, c2, rfl, o2, r2, hc2, b⟩
    have Sw3 := Lib.hid b.size
    have L2 := Lib.hid o2.span
    have HB := Lib.hid (chain0 (w := w) (by repeat (first | with_reducible exact Below.refl _ _ | with_reducible exact HB.out | with_reducible apply Below.drew | with_reducible apply bdN | with_reducible refine Below.alloc ?_ (by first | exact Nat.le_refl _ | with_reducible exact HB.out.size | omega | (simp; done) | (simp; omega) | (have := HB.out.size; simp at *; omega)) _ | with_reducible refine Below.setCell ?_ (by first | exact Nat.le_refl _ | with_reducible exact HB.out.size | omega | (simp; done) | (simp; omega) | (have := HB.out.size; simp at *; omega)) _)) b)
    have Zw3 := Lib.hid HB.out.size
    have HR := Lib.hid (Rd.below (by repeat (first | with_reducible exact HR.out | with_reducible apply Rd.drewN | with_reducible apply Rd.drew | with_reducible apply Rd.alloc)) b)
    have K1 := Lib.hid (TBox.below (by repeat (first | with_reducible exact K1.out | with_reducible apply TBox.drewN | with_reducible apply TBox.drew | with_reducible apply TBox.alloc)) b)
    have Oa := Lib.hid (Own.below (by repeat (first | with_reducible exact Oa.out | with_reducible apply Own.drewN | with_reducible apply Own.drew | with_reducible apply Own.alloc)) b)
    have Ra := Lib.hid (Rd.below (by repeat (first | with_reducible exact Ra.out | with_reducible apply Rd.drewN | with_reducible apply Rd.drew | with_reducible apply Rd.alloc)) b)
    have K0 : Hid (DBox _ (w.heap.size) (⟨73, s, nx, .slice p n c⟩)) := Lib.hid (DBox.below (by repeat (first | with_reducible exact K0.out | with_reducible apply DBox.drewN | with_reducible apply DBox.drew | (with_reducible refine DBox.newAt ?_ ?_ <;> first | (simp; done) | rfl) | with_reducible apply DBox.alloc)) b)
    have K6 : Hid (DBox _ (g6) (⟨75, s1, n1, .slice pa m ca⟩)) := Lib.hid (DBox.below (by repeat (first | with_reducible exact K6.out | with_reducible apply DBox.drewN | with_reducible apply DBox.drew | (with_reducible refine DBox.newAt ?_ ?_ <;> first | (simp; done) | rfl) | with_reducible apply DBox.alloc)) b)
    try clear k0a k0b k0c k0d k0z
    have k0z := K0.out.lt
    obtain ⟨k0a, k0b, k0c, k0d⟩ := K0.out.cell
    try clear k6a k6b k6c k6d k6z
    have k6z := K6.out.lt
    obtain ⟨k6a, k6b, k6c, k6d⟩ := K6.out.cell
    have O2 := Lib.hid o2
    have R2 := Lib.hid r2
    clear b o2 r2
    go_upto_region 7 with fail
    have K8 : Hid (DBox (w3.alloc (Dv.mk 75 s nx (.slice p2 n c2)).obj) w3.heap.size ⟨75, s, nx, .slice p2 n c2⟩) := Lib.hid (DBox.new _ _)
    obtain ⟨g8, hg8⟩ : ∃ g8, w3.heap.size = g8 := ⟨_, rfl⟩
    have HG8 := Lib.hid hg8
    rw [hg8] at K8
    try rw [hg8]
    clear hg8
    obtain ⟨w4, ew, b⟩ : ∃ w1 : World, w1 = (w3.alloc (Dv.mk 75 s nx (.slice p2 n c2)).obj) ∧ Below ((w3.alloc (Dv.mk 75 s nx (.slice p2 n c2)).obj)).heap.size ((w3.alloc (Dv.mk 75 s nx (.slice p2 n c2)).obj)) w1 := ⟨_, rfl, Below.refl _ _⟩
    rw [← ew]
    clear ew
    have Sw4 := Lib.hid b.size
    have HB := Lib.hid (chain0 (w := w) (by repeat (first | with_reducible exact Below.refl _ _ | with_reducible exact HB.out | with_reducible apply Below.drew | with_reducible apply bdN | with_reducible refine Below.alloc ?_ (by first | exact Nat.le_refl _ | with_reducible exact HB.out.size | omega | (simp; done) | (simp; omega) | (have := HB.out.size; simp at *; omega)) _ | with_reducible refine Below.setCell ?_ (by first | exact Nat.le_refl _ | with_reducible exact HB.out.size | omega | (simp; done) | (simp; omega) | (have := HB.out.size; simp at *; omega)) _)) b)
    have HR := Lib.hid (Rd.below (by repeat (first | with_reducible exact HR.out | with_reducible apply Rd.drewN | with_reducible apply Rd.drew | with_reducible apply Rd.alloc)) b)
    have K1 := Lib.hid (TBox.below (by repeat (first | with_reducible exact K1.out | with_reducible apply TBox.drewN | with_reducible apply TBox.drew | with_reducible apply TBox.alloc)) b)
    have Oa := Lib.hid (Own.below (by repeat (first | with_reducible exact Oa.out | with_reducible apply Own.drewN | with_reducible apply Own.drew | with_reducible apply Own.alloc)) b)
    have Ra := Lib.hid (Rd.below (by repeat (first | with_reducible exact Ra.out | with_reducible apply Rd.drewN | with_reducible apply Rd.drew | with_reducible apply Rd.alloc)) b)
    have O2 := Lib.hid (Own.below (by repeat (first | with_reducible exact O2.out | with_reducible apply Own.drewN | with_reducible apply Own.drew | with_reducible apply Own.alloc)) b)
    have R2 := Lib.hid (Rd.below (by repeat (first | with_reducible exact R2.out | with_reducible apply Rd.drewN | with_reducible apply Rd.drew | with_reducible apply Rd.alloc)) b)
    have K0 : Hid (DBox _ (w.heap.size) (⟨73, s, nx, .slice p n c⟩)) := Lib.hid (DBox.below (by repeat (first | with_reducible exact K0.out | with_reducible apply DBox.drewN | with_reducible apply DBox.drew | (with_reducible refine DBox.newAt ?_ ?_ <;> first | (simp; done) | rfl) | with_reducible apply DBox.alloc)) b)
    have K6 : Hid (DBox _ (g6) (⟨75, s1, n1, .slice pa m ca⟩)) := Lib.hid (DBox.below (by repeat (first | with_reducible exact K6.out | with_reducible apply DBox.drewN | with_reducible apply DBox.drew | (with_reducible refine DBox.newAt ?_ ?_ <;> first | (simp; done) | rfl) | with_reducible apply DBox.alloc)) b)
    have K8 : Hid (DBox _ (g8) (⟨75, s, nx, .slice p2 n c2⟩)) := Lib.hid (DBox.below (by repeat (first | with_reducible exact K8.out | with_reducible apply DBox.drewN | with_reducible apply DBox.drew | (with_reducible refine DBox.newAt ?_ ?_ <;> first | (simp; done) | rfl) | with_reducible apply DBox.alloc)) b)
    try clear k0a k0b k0c k0d k0z
    have k0z := K0.out.lt
    obtain ⟨k0a, k0b, k0c, k0d⟩ := K0.out.cell
    try clear k6a k6b k6c k6d k6z
    have k6z := K6.out.lt
    obtain ⟨k6a, k6b, k6c, k6d⟩ := K6.out.cell
    try clear k8a k8b k8c k8d k8z
    have k8z := K8.out.lt
    obtain ⟨k8a, k8b, k8c, k8d⟩ := K8.out.cell
    clear b
    have Sx4 : Hid (w3.heap.size ≤ w4.heap.size) := Lib.hid (Nat.le_trans (by simp) Sw4.out)
    refine region_deal [(true, 0), (true, 1), (false, 2), (false, 3), (true, 4), (true, 5), (true, 6)] 7 8 9 [(9, 10, 37)] _ _ 36 (by kernel_rfl) rfl rfl (by kernel_rfl) rfl rfl rfl rfl rfl rfl rfl rfl (by decide) (of_decide_eq_true rfl) ?_
    refine chain_load 32 rfl rfl rfl 75 _ rfl rfl #[.int .i64 s, .int .i64 nx, .slice p2 n c2] (fun w h => DBox.below K8.out h) Try.underlying75 rfl (by kernel_rfl) ?_
    refine chain_load 33 rfl rfl rfl 25 _ rfl rfl #[.int .i64 t.a, .int .i64 t.b, .int .i64 t.c] (fun w h => TBox.below K1.out h) Try.underlying25 rfl (by kernel_rfl) ?_
    refine chain_call 34 rfl rfl rfl (fun w => by kernel_rfl) (fun w h => to_a3 t w) ?_
    refine chain_callE 35 rfl rfl rfl (fun w => by kernel_rfl) (fun wy hy => (HI.out p2 n c2 _ wy HN.out (by omega) (Own.below O2.out hy)).mono ?_)
    rintro e wz ⟨vb, rfl, ob, b⟩
    obtain ⟨pb, cb, rfl, hcb, -⟩ := ob.form
    rw [HMm.out] at ob hcb ⊢
    refine ⟨_, rfl, b, fun w' => BI w4 w' ∧ Own w' w4.heap.size (.slice pb m cb) R, ⟨fun _ h => h.1, fun _ h => h.1.size, fun _ h => ⟨Below.alloc h.1 h.1.size _, h.2.alloc _⟩⟩, ⟨BI.next hy b, ob.base hy.size⟩, ?_⟩
    clear b hy ob
    refine chain_pure 31 (v := .tuple #[dval s1 n1 (.slice pb m cb), .bool ok]) rfl rfl rfl (fun w => by kernel_rfl) ?_
    refine chain_pure 36 (v := dval s1 n1 (.slice pb m cb)) rfl rfl rfl (fun w => by kernel_rfl) ?_
    refine chain_pure 37 (v := .bool ok) rfl rfl rfl (fun w => by kernel_rfl) ?_
    refine ⟨s1, n1, .slice pb m cb, by kernel_rfl, rfl, by kernel_rfl, ?_⟩
    clear wy wz
    intro wq wc g9 hI hg hb hG hD
    refine ⟨_, ⟨.bool ok, by kernel_rfl, rfl⟩, ?_⟩
    simp only [Act.put, List.setIfInBounds_toArray, List.set_cons_zero, List.set_cons_succ]
    have b : Below w4.heap.size w4 wc := Below.grown hI.1 hG hI.1.size (fun k hk => by injection hk with hk; omega)
    have HOF9 := Lib.hid (own_apart hI.2 hb)
    have Ob := Lib.hid (own_grown hI.2 hG (fun q e e2 => own_apart hI.2 hb q e (by injection e2 with e2; exact e2.symm)))
    have Lb := Lib.hid Ob.out.span
    have Rb := Lib.hid Ob.out.rd
    have K9 := Lib.hid hD
    have GE9 := Lib.hid hg
    clear hI hg hb hG hD wq
    unfold ptr
    have Swc := Lib.hid b.size
    have HB := Lib.hid (chain0 (w := w) (by repeat (first | with_reducible exact Below.refl _ _ | with_reducible exact HB.out | with_reducible apply Below.drew | with_reducible apply bdN | with_reducible refine Below.alloc ?_ (by first | exact Nat.le_refl _ | with_reducible exact HB.out.size | omega | (simp; done) | (simp; omega) | (have := HB.out.size; simp at *; omega)) _ | with_reducible refine Below.setCell ?_ (by first | exact Nat.le_refl _ | with_reducible exact HB.out.size | omega | (simp; done) | (simp; omega) | (have := HB.out.size; simp at *; omega)) _)) b)
    have HR := Lib.hid (Rd.below (by repeat (first | with_reducible exact HR.out | with_reducible apply Rd.drewN | with_reducible apply Rd.drew | with_reducible apply Rd.alloc)) b)
    have K1 := Lib.hid (TBox.below (by repeat (first | with_reducible exact K1.out | with_reducible apply TBox.drewN | with_reducible apply TBox.drew | with_reducible apply TBox.alloc)) b)
    have Oa := Lib.hid (Own.below (by repeat (first | with_reducible exact Oa.out | with_reducible apply Own.drewN | with_reducible apply Own.drew | with_reducible apply Own.alloc)) b)
    have Ra := Lib.hid (Rd.below (by repeat (first | with_reducible exact Ra.out | with_reducible apply Rd.drewN | with_reducible apply Rd.drew | with_reducible apply Rd.alloc)) b)
    have O2 := Lib.hid (Own.below (by repeat (first | with_reducible exact O2.out | with_reducible apply Own.drewN | with_reducible apply Own.drew | with_reducible apply Own.alloc)) b)
    have R2 := Lib.hid (Rd.below (by repeat (first | with_reducible exact R2.out | with_reducible apply Rd.drewN | with_reducible apply Rd.drew | with_reducible apply Rd.alloc)) b)
    have K0 : Hid (DBox _ (w.heap.size) (⟨73, s, nx, .slice p n c⟩)) := Lib.hid (DBox.below (by repeat (first | with_reducible exact K0.out | with_reducible apply DBox.drewN | with_reducible apply DBox.drew | (with_reducible refine DBox.newAt ?_ ?_ <;> first | (simp; done) | rfl) | with_reducible apply DBox.alloc)) b)
    have K6 : Hid (DBox _ (g6) (⟨75, s1, n1, .slice pa m ca⟩)) := Lib.hid (DBox.below (by repeat (first | with_reducible exact K6.out | with_reducible apply DBox.drewN | with_reducible apply DBox.drew | (with_reducible refine DBox.newAt ?_ ?_ <;> first | (simp; done) | rfl) | with_reducible apply DBox.alloc)) b)
    have K8 : Hid (DBox _ (g8) (⟨75, s, nx, .slice p2 n c2⟩)) := Lib.hid (DBox.below (by repeat (first | with_reducible exact K8.out | with_reducible apply DBox.drewN | with_reducible apply DBox.drew | (with_reducible refine DBox.newAt ?_ ?_ <;> first | (simp; done) | rfl) | with_reducible apply DBox.alloc)) b)
    try clear k0a k0b k0c k0d k0z
    have k0z := K0.out.lt
    obtain ⟨k0a, k0b, k0c, k0d⟩ := K0.out.cell
    try clear k6a k6b k6c k6d k6z
    have k6z := K6.out.lt
    obtain ⟨k6a, k6b, k6c, k6d⟩ := K6.out.cell
    try clear k8a k8b k8c k8d k8z
    have k8z := K8.out.lt
    obtain ⟨k8a, k8b, k8c, k8d⟩ := K8.out.cell
    clear b
    obtain ⟨k9a, k9b, k9c, k9d⟩ := K9.out.cell
    have k9z := K9.out.lt
    have G9 := Lib.hid k9z
    go_wp2_with fail
    refine ((eq_deal s1 n1 R pb pa m cb ca _ HMm.out (by have := HL.out; omega) Rb.out Ra.out)).mono ?_
    rintro e w5 ⟨rfl, b⟩
    have Sw5 := Lib.hid b.size
    have HB := Lib.hid (chain0 (w := w) (by repeat (first | with_reducible exact Below.refl _ _ | with_reducible exact HB.out | with_reducible apply Below.drew | with_reducible apply bdN | with_reducible refine Below.alloc ?_ (by first | exact Nat.le_refl _ | with_reducible exact HB.out.size | omega | (simp; done) | (simp; omega) | (have := HB.out.size; simp at *; omega)) _ | with_reducible refine Below.setCell ?_ (by first | exact Nat.le_refl _ | with_reducible exact HB.out.size | omega | (simp; done) | (simp; omega) | (have := HB.out.size; simp at *; omega)) _)) b)
    have HR := Lib.hid (Rd.below (by repeat (first | with_reducible exact HR.out | with_reducible apply Rd.drewN | with_reducible apply Rd.drew | with_reducible apply Rd.alloc)) b)
    have K1 := Lib.hid (TBox.below (by repeat (first | with_reducible exact K1.out | with_reducible apply TBox.drewN | with_reducible apply TBox.drew | with_reducible apply TBox.alloc)) b)
    have Oa := Lib.hid (Own.below (by repeat (first | with_reducible exact Oa.out | with_reducible apply Own.drewN | with_reducible apply Own.drew | with_reducible apply Own.alloc)) b)
    have Ra := Lib.hid (Rd.below (by repeat (first | with_reducible exact Ra.out | with_reducible apply Rd.drewN | with_reducible apply Rd.drew | with_reducible apply Rd.alloc)) b)
    have O2 := Lib.hid (Own.below (by repeat (first | with_reducible exact O2.out | with_reducible apply Own.drewN | with_reducible apply Own.drew | with_reducible apply Own.alloc)) b)
    have R2 := Lib.hid (Rd.below (by repeat (first | with_reducible exact R2.out | with_reducible apply Rd.drewN | with_reducible apply Rd.drew | with_reducible apply Rd.alloc)) b)
    have Ob := Lib.hid (Own.below (by repeat (first | with_reducible exact Ob.out | with_reducible apply Own.drewN | with_reducible apply Own.drew | with_reducible apply Own.alloc)) b)
    have Rb := Lib.hid (Rd.below (by repeat (first | with_reducible exact Rb.out | with_reducible apply Rd.drewN | with_reducible apply Rd.drew | with_reducible apply Rd.alloc)) b)
    have K0 : Hid (DBox _ (w.heap.size) (⟨73, s, nx, .slice p n c⟩)) := Lib.hid (DBox.below (by repeat (first | with_reducible exact K0.out | with_reducible apply DBox.drewN | with_reducible apply DBox.drew | (with_reducible refine DBox.newAt ?_ ?_ <;> first | (simp; done) | rfl) | with_reducible apply DBox.alloc)) b)
    have K6 : Hid (DBox _ (g6) (⟨75, s1, n1, .slice pa m ca⟩)) := Lib.hid (DBox.below (by repeat (first | with_reducible exact K6.out | with_reducible apply DBox.drewN | with_reducible apply DBox.drew | (with_reducible refine DBox.newAt ?_ ?_ <;> first | (simp; done) | rfl) | with_reducible apply DBox.alloc)) b)
    have K8 : Hid (DBox _ (g8) (⟨75, s, nx, .slice p2 n c2⟩)) := Lib.hid (DBox.below (by repeat (first | with_reducible exact K8.out | with_reducible apply DBox.drewN | with_reducible apply DBox.drew | (with_reducible refine DBox.newAt ?_ ?_ <;> first | (simp; done) | rfl) | with_reducible apply DBox.alloc)) b)
    have K9 : Hid (DBox _ (g9) (⟨75, s1, n1, .slice pb m cb⟩)) := Lib.hid (DBox.below (by repeat (first | with_reducible exact K9.out | with_reducible apply DBox.drewN | with_reducible apply DBox.drew | (with_reducible refine DBox.newAt ?_ ?_ <;> first | (simp; done) | rfl) | with_reducible apply DBox.alloc)) b)
    try clear k0a k0b k0c k0d k0z
    have k0z := K0.out.lt
    obtain ⟨k0a, k0b, k0c, k0d⟩ := K0.out.cell
    try clear k6a k6b k6c k6d k6z
    have k6z := K6.out.lt
    obtain ⟨k6a, k6b, k6c, k6d⟩ := K6.out.cell
    try clear k8a k8b k8c k8d k8z
    have k8z := K8.out.lt
    obtain ⟨k8a, k8b, k8c, k8d⟩ := K8.out.cell
    try clear k9a k9b k9c k9d k9z
    have k9z := K9.out.lt
    obtain ⟨k9a, k9b, k9c, k9d⟩ := K9.out.cell
    clear b
    go_upto_region 10 with fail
    refine region_BI [(true, 0), (true, 1), (false, 2), (false, 3), (true, 4)] (by kernel_rfl) rfl (by kernel_rfl) ?_
    refine chain_load 47 rfl rfl rfl 75 _ rfl rfl #[.int .i64 s, .int .i64 nx, .slice p2 n c2] (fun w h => DBox.below K8.out h) Try.underlying75 rfl (by kernel_rfl) ?_
    refine chain_load 48 rfl rfl rfl 73 _ rfl rfl #[.int .i64 s, .int .i64 nx, .slice p n c] (fun w h => DBox.below K0.out h) Try.underlying73 rfl (by kernel_rfl) ?_
    refine chain_callE 49 rfl rfl rfl (fun w => by kernel_rfl) (fun wy hy => (to_deal s nx l p n c wy HN.out (by omega) (HR.out.below hy)).mono ?_)
    rintro e wz ⟨p3, c3, rfl, o3, r3, hc3, b⟩
    refine ⟨_, rfl, b, fun w' => BI w5 w' ∧ Rd w' p3 (flat l), ⟨fun _ h => h.1, fun _ h => h.1.size, fun _ h => ⟨Below.alloc h.1 h.1.size _, Rd.alloc h.2 _⟩⟩, ⟨BI.next hy b, r3⟩, ?_⟩
    clear b r3 o3 hy
    refine chain_callE 50 rfl rfl rfl (fun w => by kernel_rfl) (fun wy hy => (eq_deal s nx l p2 p3 n c2 c3 wy HN.out (by omega) (R2.out.below hy.1) hy.2).mono ?_)
    rintro e wz ⟨rfl, b⟩
    refine ⟨_, rfl, b, fun w' => BI w5 w', ⟨fun _ h => h, fun _ h => h.size, fun _ h => Below.alloc h h.size _⟩, BI.next hy.1 b, ?_⟩
    clear b hy
    refine chain_pure 51 (v := .bool false) rfl rfl rfl (fun w => by kernel_rfl) ?_
    intro w7 hI
    have b : Below w5.heap.size w5 w7 := hI
    have Sw7 := Lib.hid b.size
    have HB := Lib.hid (chain0 (w := w) (by repeat (first | with_reducible exact Below.refl _ _ | with_reducible exact HB.out | with_reducible apply Below.drew | with_reducible apply bdN | with_reducible refine Below.alloc ?_ (by first | exact Nat.le_refl _ | with_reducible exact HB.out.size | omega | (simp; done) | (simp; omega) | (have := HB.out.size; simp at *; omega)) _ | with_reducible refine Below.setCell ?_ (by first | exact Nat.le_refl _ | with_reducible exact HB.out.size | omega | (simp; done) | (simp; omega) | (have := HB.out.size; simp at *; omega)) _)) b)
    have HR := Lib.hid (Rd.below (by repeat (first | with_reducible exact HR.out | with_reducible apply Rd.drewN | with_reducible apply Rd.drew | with_reducible apply Rd.alloc)) b)
    have K1 := Lib.hid (TBox.below (by repeat (first | with_reducible exact K1.out | with_reducible apply TBox.drewN | with_reducible apply TBox.drew | with_reducible apply TBox.alloc)) b)
    have Oa := Lib.hid (Own.below (by repeat (first | with_reducible exact Oa.out | with_reducible apply Own.drewN | with_reducible apply Own.drew | with_reducible apply Own.alloc)) b)
    have Ra := Lib.hid (Rd.below (by repeat (first | with_reducible exact Ra.out | with_reducible apply Rd.drewN | with_reducible apply Rd.drew | with_reducible apply Rd.alloc)) b)
    have O2 := Lib.hid (Own.below (by repeat (first | with_reducible exact O2.out | with_reducible apply Own.drewN | with_reducible apply Own.drew | with_reducible apply Own.alloc)) b)
    have R2 := Lib.hid (Rd.below (by repeat (first | with_reducible exact R2.out | with_reducible apply Rd.drewN | with_reducible apply Rd.drew | with_reducible apply Rd.alloc)) b)
    have Ob := Lib.hid (Own.below (by repeat (first | with_reducible exact Ob.out | with_reducible apply Own.drewN | with_reducible apply Own.drew | with_reducible apply Own.alloc)) b)
    have Rb := Lib.hid (Rd.below (by repeat (first | with_reducible exact Rb.out | with_reducible apply Rd.drewN | with_reducible apply Rd.drew | with_reducible apply Rd.alloc)) b)
    have K0 : Hid (DBox _ (w.heap.size) (⟨73, s, nx, .slice p n c⟩)) := Lib.hid (DBox.below (by repeat (first | with_reducible exact K0.out | with_reducible apply DBox.drewN | with_reducible apply DBox.drew | (with_reducible refine DBox.newAt ?_ ?_ <;> first | (simp; done) | rfl) | with_reducible apply DBox.alloc)) b)
    have K6 : Hid (DBox _ (g6) (⟨75, s1, n1, .slice pa m ca⟩)) := Lib.hid (DBox.below (by repeat (first | with_reducible exact K6.out | with_reducible apply DBox.drewN | with_reducible apply DBox.drew | (with_reducible refine DBox.newAt ?_ ?_ <;> first | (simp; done) | rfl) | with_reducible apply DBox.alloc)) b)
    have K8 : Hid (DBox _ (g8) (⟨75, s, nx, .slice p2 n c2⟩)) := Lib.hid (DBox.below (by repeat (first | with_reducible exact K8.out | with_reducible apply DBox.drewN | with_reducible apply DBox.drew | (with_reducible refine DBox.newAt ?_ ?_ <;> first | (simp; done) | rfl) | with_reducible apply DBox.alloc)) b)
    have K9 : Hid (DBox _ (g9) (⟨75, s1, n1, .slice pb m cb⟩)) := Lib.hid (DBox.below (by repeat (first | with_reducible exact K9.out | with_reducible apply DBox.drewN | with_reducible apply DBox.drew | (with_reducible refine DBox.newAt ?_ ?_ <;> first | (simp; done) | rfl) | with_reducible apply DBox.alloc)) b)
    try clear k0a k0b k0c k0d k0z
    have k0z := K0.out.lt
    obtain ⟨k0a, k0b, k0c, k0d⟩ := K0.out.cell
    try clear k6a k6b k6c k6d k6z
    have k6z := K6.out.lt
    obtain ⟨k6a, k6b, k6c, k6d⟩ := K6.out.cell
    try clear k8a k8b k8c k8d k8z
    have k8z := K8.out.lt
    obtain ⟨k8a, k8b, k8c, k8d⟩ := K8.out.cell
    try clear k9a k9b k9c k9d k9z
    have k9z := K9.out.lt
    obtain ⟨k9a, k9b, k9c, k9d⟩ := K9.out.cell
    clear b
    go_wp2_with fail
    refine ((mark_deal s nx l (.slice p2 n c2) _ 1 n _ HN.out (by omega) (by have := Sw3.out; have := Sx4.out; have := Swc.out; have := Sw5.out; have := Sw7.out; omega) O2.out)).mono ?_
    rintro e w8 ⟨rfl, oM, gM⟩
    have Sw8 := Lib.hid gM.size
    have HB := Lib.hid (Below.grown HB.out gM HB.out.size (fun k hk => Nat.le_trans (by have h0 := Sw0.out; have h1 := Sw0.out; have h2 := Sw2.out; have h3 := Yw3K0.out; have h4 := Yw3K6.out; have h5 := Zw3.out; have h6 := Sw3.out; have h7 := Sw4.out; have h8 := Sx4.out; have h9 := HG8.out; have h10 := Swc.out; have h11 := GE9.out; have h12 := G9.out; have h13 := Sw5.out; have h14 := Sw7.out; first | omega | (simp at *; omega)) (L2.out k hk).1))
    have HR := Lib.hid (Rd.below HR0.out HB.out)
    have K1 := Lib.hid (TBox.marked K1.out gM (fun k hk => Nat.lt_of_lt_of_le (by have h0 := Sw0.out; have h1 := Sw0.out; have h2 := Sw2.out; have h3 := Yw3K0.out; have h4 := Yw3K6.out; have h5 := Zw3.out; have h6 := Sw3.out; have h7 := Sw4.out; have h8 := Sx4.out; have h9 := HG8.out; have h10 := Swc.out; have h11 := GE9.out; have h12 := G9.out; have h13 := Sw5.out; have h14 := Sw7.out; first | omega | (simp at *; omega)) (L2.out k hk).1))
    have Oa := Lib.hid (Own.stay Oa.out gM La.out L2.out (by have h0 := Sw0.out; have h1 := Sw0.out; have h2 := Sw2.out; have h3 := Yw3K0.out; have h4 := Yw3K6.out; have h5 := Zw3.out; have h6 := Sw3.out; have h7 := Sw4.out; have h8 := Sx4.out; have h9 := HG8.out; have h10 := Swc.out; have h11 := GE9.out; have h12 := G9.out; have h13 := Sw5.out; have h14 := Sw7.out; first | omega | (simp at *; omega)))
    have Ob := Lib.hid (Own.stay Ob.out gM Lb.out L2.out (by have h0 := Sw0.out; have h1 := Sw0.out; have h2 := Sw2.out; have h3 := Yw3K0.out; have h4 := Yw3K6.out; have h5 := Zw3.out; have h6 := Sw3.out; have h7 := Sw4.out; have h8 := Sx4.out; have h9 := HG8.out; have h10 := Swc.out; have h11 := GE9.out; have h12 := G9.out; have h13 := Sw5.out; have h14 := Sw7.out; first | omega | (simp at *; omega)))
    have O2 := Lib.hid oM
    have Ra := Lib.hid (Own.rd Oa.out)
    have Rb := Lib.hid (Own.rd Ob.out)
    have K0 : Hid (DBox _ (w.heap.size) (⟨73, s, nx, .slice p n c⟩)) := Lib.hid (DBox.markedN K0.out gM (fun k hk => by first | exact HOF0.out k hk | (have q1 := (L2.out k hk).1; have q2 := (L2.out k hk).2; have h0 := Sw0.out; have h1 := Sw0.out; have h2 := Sw2.out; have h3 := Yw3K0.out; have h4 := Yw3K6.out; have h5 := Zw3.out; have h6 := Sw3.out; have h7 := Sw4.out; have h8 := Sx4.out; have h9 := HG8.out; have h10 := Swc.out; have h11 := GE9.out; have h12 := G9.out; have h13 := Sw5.out; have h14 := Sw7.out; first | omega | (simp at *; omega))))
    try clear k0a k0b k0c k0d k0z
    have k0z := K0.out.lt
    obtain ⟨k0a, k0b, k0c, k0d⟩ := K0.out.cell
    have K6 : Hid (DBox _ (g6) (⟨75, s1, n1, .slice pa m ca⟩)) := Lib.hid (DBox.markedN K6.out gM (fun k hk => by first | exact HOF6.out k hk | (have q1 := (L2.out k hk).1; have q2 := (L2.out k hk).2; have h0 := Sw0.out; have h1 := Sw0.out; have h2 := Sw2.out; have h3 := Yw3K0.out; have h4 := Yw3K6.out; have h5 := Zw3.out; have h6 := Sw3.out; have h7 := Sw4.out; have h8 := Sx4.out; have h9 := HG8.out; have h10 := Swc.out; have h11 := GE9.out; have h12 := G9.out; have h13 := Sw5.out; have h14 := Sw7.out; first | omega | (simp at *; omega))))
    try clear k6a k6b k6c k6d k6z
    have k6z := K6.out.lt
    obtain ⟨k6a, k6b, k6c, k6d⟩ := K6.out.cell
    have K8 : Hid (DBox _ (g8) (⟨75, s, nx, .slice p2 n c2⟩)) := Lib.hid (DBox.markedN K8.out gM (fun k hk => by first | exact HOF8.out k hk | (have q1 := (L2.out k hk).1; have q2 := (L2.out k hk).2; have h0 := Sw0.out; have h1 := Sw0.out; have h2 := Sw2.out; have h3 := Yw3K0.out; have h4 := Yw3K6.out; have h5 := Zw3.out; have h6 := Sw3.out; have h7 := Sw4.out; have h8 := Sx4.out; have h9 := HG8.out; have h10 := Swc.out; have h11 := GE9.out; have h12 := G9.out; have h13 := Sw5.out; have h14 := Sw7.out; first | omega | (simp at *; omega))))
    try clear k8a k8b k8c k8d k8z
    have k8z := K8.out.lt
    obtain ⟨k8a, k8b, k8c, k8d⟩ := K8.out.cell
    have K9 : Hid (DBox _ (g9) (⟨75, s1, n1, .slice pb m cb⟩)) := Lib.hid (DBox.markedN K9.out gM (fun k hk => by first | exact HOF9.out k hk | (have q1 := (L2.out k hk).1; have q2 := (L2.out k hk).2; have h0 := Sw0.out; have h1 := Sw0.out; have h2 := Sw2.out; have h3 := Yw3K0.out; have h4 := Yw3K6.out; have h5 := Zw3.out; have h6 := Sw3.out; have h7 := Sw4.out; have h8 := Sx4.out; have h9 := HG8.out; have h10 := Swc.out; have h11 := GE9.out; have h12 := G9.out; have h13 := Sw5.out; have h14 := Sw7.out; first | omega | (simp at *; omega))))
    try clear k9a k9b k9c k9d k9z
    have k9z := K9.out.lt
    obtain ⟨k9a, k9b, k9c, k9d⟩ := K9.out.cell
    clear oM gM
    go_wp2_with fail
    refine ((eq_deal s1 n1 R pb pa m cb ca _ HMm.out (by have := HL.out; omega) Rb.out Ra.out)).mono ?_
    rintro e w9 ⟨rfl, b⟩
    have Sw9 := Lib.hid b.size
    have HB := Lib.hid (chain0 (w := w) (by repeat (first | with_reducible exact Below.refl _ _ | with_reducible exact HB.out | with_reducible apply Below.drew | with_reducible apply bdN | with_reducible refine Below.alloc ?_ (by first | exact Nat.le_refl _ | with_reducible exact HB.out.size | omega | (simp; done) | (simp; omega) | (have := HB.out.size; simp at *; omega)) _ | with_reducible refine Below.setCell ?_ (by first | exact Nat.le_refl _ | with_reducible exact HB.out.size | omega | (simp; done) | (simp; omega) | (have := HB.out.size; simp at *; omega)) _)) b)
    have HR := Lib.hid (Rd.below (by repeat (first | with_reducible exact HR.out | with_reducible apply Rd.drewN | with_reducible apply Rd.drew | with_reducible apply Rd.alloc)) b)
    have K1 := Lib.hid (TBox.below (by repeat (first | with_reducible exact K1.out | with_reducible apply TBox.drewN | with_reducible apply TBox.drew | with_reducible apply TBox.alloc)) b)
    have Oa := Lib.hid (Own.below (by repeat (first | with_reducible exact Oa.out | with_reducible apply Own.drewN | with_reducible apply Own.drew | with_reducible apply Own.alloc)) b)
    have O2 := Lib.hid (Own.below (by repeat (first | with_reducible exact O2.out | with_reducible apply Own.drewN | with_reducible apply Own.drew | with_reducible apply Own.alloc)) b)
    have Ob := Lib.hid (Own.below (by repeat (first | with_reducible exact Ob.out | with_reducible apply Own.drewN | with_reducible apply Own.drew | with_reducible apply Own.alloc)) b)
    have Ra := Lib.hid (Rd.below (by repeat (first | with_reducible exact Ra.out | with_reducible apply Rd.drewN | with_reducible apply Rd.drew | with_reducible apply Rd.alloc)) b)
    have Rb := Lib.hid (Rd.below (by repeat (first | with_reducible exact Rb.out | with_reducible apply Rd.drewN | with_reducible apply Rd.drew | with_reducible apply Rd.alloc)) b)
    have K0 : Hid (DBox _ (w.heap.size) (⟨73, s, nx, .slice p n c⟩)) := Lib.hid (DBox.below (by repeat (first | with_reducible exact K0.out | with_reducible apply DBox.drewN | with_reducible apply DBox.drew | (with_reducible refine DBox.newAt ?_ ?_ <;> first | (simp; done) | rfl) | with_reducible apply DBox.alloc)) b)
    have K6 : Hid (DBox _ (g6) (⟨75, s1, n1, .slice pa m ca⟩)) := Lib.hid (DBox.below (by repeat (first | with_reducible exact K6.out | with_reducible apply DBox.drewN | with_reducible apply DBox.drew | (with_reducible refine DBox.newAt ?_ ?_ <;> first | (simp; done) | rfl) | with_reducible apply DBox.alloc)) b)
    have K8 : Hid (DBox _ (g8) (⟨75, s, nx, .slice p2 n c2⟩)) := Lib.hid (DBox.below (by repeat (first | with_reducible exact K8.out | with_reducible apply DBox.drewN | with_reducible apply DBox.drew | (with_reducible refine DBox.newAt ?_ ?_ <;> first | (simp; done) | rfl) | with_reducible apply DBox.alloc)) b)
    have K9 : Hid (DBox _ (g9) (⟨75, s1, n1, .slice pb m cb⟩)) := Lib.hid (DBox.below (by repeat (first | with_reducible exact K9.out | with_reducible apply DBox.drewN | with_reducible apply DBox.drew | (with_reducible refine DBox.newAt ?_ ?_ <;> first | (simp; done) | rfl) | with_reducible apply DBox.alloc)) b)
    try clear k0a k0b k0c k0d k0z
    have k0z := K0.out.lt
    obtain ⟨k0a, k0b, k0c, k0d⟩ := K0.out.cell
    try clear k6a k6b k6c k6d k6z
    have k6z := K6.out.lt
    obtain ⟨k6a, k6b, k6c, k6d⟩ := K6.out.cell
    try clear k8a k8b k8c k8d k8z
    have k8z := K8.out.lt
    obtain ⟨k8a, k8b, k8c, k8d⟩ := K8.out.cell
    try clear k9a k9b k9c k9d k9z
    have k9z := K9.out.lt
    obtain ⟨k9a, k9b, k9c, k9d⟩ := K9.out.cell
    clear b
    go_wp2_with fail
    refine ((mark_deal s1 n1 R (.slice pb m cb) _ 1 m _ HMm.out (by have := HL.out; omega) (by have := Swc.out; have := Sw5.out; have := Sw7.out; have := Sw8.out; have := Sw9.out; omega) Ob.out)).mono ?_
    rintro e w10 ⟨rfl, oM, gM⟩
    have Sw10 := Lib.hid gM.size
    have HB := Lib.hid (Below.grown HB.out gM HB.out.size (fun k hk => Nat.le_trans (by have h0 := Sw0.out; have h1 := Sw0.out; have h2 := Sw2.out; have h3 := Yw3K0.out; have h4 := Yw3K6.out; have h5 := Zw3.out; have h6 := Sw3.out; have h7 := Sw4.out; have h8 := Sx4.out; have h9 := HG8.out; have h10 := Swc.out; have h11 := GE9.out; have h12 := G9.out; have h13 := Sw5.out; have h14 := Sw7.out; have h15 := Sw8.out; have h16 := Sw9.out; first | omega | (simp at *; omega)) (Lb.out k hk).1))
    have HR := Lib.hid (Rd.below HR0.out HB.out)
    have K1 := Lib.hid (TBox.marked K1.out gM (fun k hk => Nat.lt_of_lt_of_le (by have h0 := Sw0.out; have h1 := Sw0.out; have h2 := Sw2.out; have h3 := Yw3K0.out; have h4 := Yw3K6.out; have h5 := Zw3.out; have h6 := Sw3.out; have h7 := Sw4.out; have h8 := Sx4.out; have h9 := HG8.out; have h10 := Swc.out; have h11 := GE9.out; have h12 := G9.out; have h13 := Sw5.out; have h14 := Sw7.out; have h15 := Sw8.out; have h16 := Sw9.out; first | omega | (simp at *; omega)) (Lb.out k hk).1))
    have Oa := Lib.hid (Own.stay Oa.out gM La.out Lb.out (by have h0 := Sw0.out; have h1 := Sw0.out; have h2 := Sw2.out; have h3 := Yw3K0.out; have h4 := Yw3K6.out; have h5 := Zw3.out; have h6 := Sw3.out; have h7 := Sw4.out; have h8 := Sx4.out; have h9 := HG8.out; have h10 := Swc.out; have h11 := GE9.out; have h12 := G9.out; have h13 := Sw5.out; have h14 := Sw7.out; have h15 := Sw8.out; have h16 := Sw9.out; first | omega | (simp at *; omega)))
    have Ob := Lib.hid oM
    have Ra := Lib.hid (Own.rd Oa.out)
    have K0 : Hid (DBox _ (w.heap.size) (⟨73, s, nx, .slice p n c⟩)) := Lib.hid (DBox.markedN K0.out gM (fun k hk => by first | exact HOF0.out k hk | (have q1 := (Lb.out k hk).1; have q2 := (Lb.out k hk).2; have h0 := Sw0.out; have h1 := Sw0.out; have h2 := Sw2.out; have h3 := Yw3K0.out; have h4 := Yw3K6.out; have h5 := Zw3.out; have h6 := Sw3.out; have h7 := Sw4.out; have h8 := Sx4.out; have h9 := HG8.out; have h10 := Swc.out; have h11 := GE9.out; have h12 := G9.out; have h13 := Sw5.out; have h14 := Sw7.out; have h15 := Sw8.out; have h16 := Sw9.out; first | omega | (simp at *; omega))))
    try clear k0a k0b k0c k0d k0z
    have k0z := K0.out.lt
    obtain ⟨k0a, k0b, k0c, k0d⟩ := K0.out.cell
    have K6 : Hid (DBox _ (g6) (⟨75, s1, n1, .slice pa m ca⟩)) := Lib.hid (DBox.markedN K6.out gM (fun k hk => by first | exact HOF6.out k hk | (have q1 := (Lb.out k hk).1; have q2 := (Lb.out k hk).2; have h0 := Sw0.out; have h1 := Sw0.out; have h2 := Sw2.out; have h3 := Yw3K0.out; have h4 := Yw3K6.out; have h5 := Zw3.out; have h6 := Sw3.out; have h7 := Sw4.out; have h8 := Sx4.out; have h9 := HG8.out; have h10 := Swc.out; have h11 := GE9.out; have h12 := G9.out; have h13 := Sw5.out; have h14 := Sw7.out; have h15 := Sw8.out; have h16 := Sw9.out; first | omega | (simp at *; omega))))
    try clear k6a k6b k6c k6d k6z
    have k6z := K6.out.lt
    obtain ⟨k6a, k6b, k6c, k6d⟩ := K6.out.cell
    have K9 : Hid (DBox _ (g9) (⟨75, s1, n1, .slice pb m cb⟩)) := Lib.hid (DBox.markedN K9.out gM (fun k hk => by first | exact HOF9.out k hk | (have q1 := (Lb.out k hk).1; have q2 := (Lb.out k hk).2; have h0 := Sw0.out; have h1 := Sw0.out; have h2 := Sw2.out; have h3 := Yw3K0.out; have h4 := Yw3K6.out; have h5 := Zw3.out; have h6 := Sw3.out; have h7 := Sw4.out; have h8 := Sx4.out; have h9 := HG8.out; have h10 := Swc.out; have h11 := GE9.out; have h12 := G9.out; have h13 := Sw5.out; have h14 := Sw7.out; have h15 := Sw8.out; have h16 := Sw9.out; first | omega | (simp at *; omega))))
    try clear k9a k9b k9c k9d k9z
    have k9z := K9.out.lt
    obtain ⟨k9a, k9b, k9c, k9d⟩ := K9.out.cell
    clear oM gM
    go_wp2_with fail
    refine ((held_deal s1 n1 (.slice pb m cb) _ 1 m _ (by have := HL.out; omega) Ob.out)).mono ?_
    rintro e w11 ⟨rfl, b⟩
    have Sw11 := Lib.hid b.size
    have HB := Lib.hid (chain0 (w := w) (by repeat (first | with_reducible exact Below.refl _ _ | with_reducible exact HB.out | with_reducible apply Below.drew | with_reducible apply bdN | with_reducible refine Below.alloc ?_ (by first | exact Nat.le_refl _ | with_reducible exact HB.out.size | omega | (simp; done) | (simp; omega) | (have := HB.out.size; simp at *; omega)) _ | with_reducible refine Below.setCell ?_ (by first | exact Nat.le_refl _ | with_reducible exact HB.out.size | omega | (simp; done) | (simp; omega) | (have := HB.out.size; simp at *; omega)) _)) b)
    have HR := Lib.hid (Rd.below (by repeat (first | with_reducible exact HR.out | with_reducible apply Rd.drewN | with_reducible apply Rd.drew | with_reducible apply Rd.alloc)) b)
    have K1 := Lib.hid (TBox.below (by repeat (first | with_reducible exact K1.out | with_reducible apply TBox.drewN | with_reducible apply TBox.drew | with_reducible apply TBox.alloc)) b)
    have Oa := Lib.hid (Own.below (by repeat (first | with_reducible exact Oa.out | with_reducible apply Own.drewN | with_reducible apply Own.drew | with_reducible apply Own.alloc)) b)
    have Ob := Lib.hid (Own.below (by repeat (first | with_reducible exact Ob.out | with_reducible apply Own.drewN | with_reducible apply Own.drew | with_reducible apply Own.alloc)) b)
    have Ra := Lib.hid (Rd.below (by repeat (first | with_reducible exact Ra.out | with_reducible apply Rd.drewN | with_reducible apply Rd.drew | with_reducible apply Rd.alloc)) b)
    have K0 : Hid (DBox _ (w.heap.size) (⟨73, s, nx, .slice p n c⟩)) := Lib.hid (DBox.below (by repeat (first | with_reducible exact K0.out | with_reducible apply DBox.drewN | with_reducible apply DBox.drew | (with_reducible refine DBox.newAt ?_ ?_ <;> first | (simp; done) | rfl) | with_reducible apply DBox.alloc)) b)
    have K6 : Hid (DBox _ (g6) (⟨75, s1, n1, .slice pa m ca⟩)) := Lib.hid (DBox.below (by repeat (first | with_reducible exact K6.out | with_reducible apply DBox.drewN | with_reducible apply DBox.drew | (with_reducible refine DBox.newAt ?_ ?_ <;> first | (simp; done) | rfl) | with_reducible apply DBox.alloc)) b)
    have K9 : Hid (DBox _ (g9) (⟨75, s1, n1, .slice pb m cb⟩)) := Lib.hid (DBox.below (by repeat (first | with_reducible exact K9.out | with_reducible apply DBox.drewN | with_reducible apply DBox.drew | (with_reducible refine DBox.newAt ?_ ?_ <;> first | (simp; done) | rfl) | with_reducible apply DBox.alloc)) b)
    try clear k0a k0b k0c k0d k0z
    have k0z := K0.out.lt
    obtain ⟨k0a, k0b, k0c, k0d⟩ := K0.out.cell
    try clear k6a k6b k6c k6d k6z
    have k6z := K6.out.lt
    obtain ⟨k6a, k6b, k6c, k6d⟩ := K6.out.cell
    try clear k9a k9b k9c k9d k9z
    have k9z := K9.out.lt
    obtain ⟨k9a, k9b, k9c, k9d⟩ := K9.out.cell
    clear b
    go_upto_region 24 with fail
    refine region_deal [(true, 0), (true, 2), (false, 1), (false, 3), (false, 4), (true, 5), (true, 6), (true, 7)] 8 9 14 [(10, 15, 86)] _ _ 85 (by kernel_rfl) rfl rfl (by kernel_rfl) rfl rfl rfl rfl rfl rfl rfl rfl (by decide) (of_decide_eq_true rfl) ?_
    refine chain_load 80 rfl rfl rfl 73 _ rfl rfl #[.int .i64 s, .int .i64 nx, .slice p n c] (fun w h => DBox.below K0.out h) Try.underlying73 rfl (by kernel_rfl) ?_
    refine chain_load 82 rfl rfl rfl 25 _ rfl rfl #[.int .i64 t.a, .int .i64 t.b, .int .i64 t.c] (fun w h => TBox.below K1.out h) Try.underlying25 rfl (by kernel_rfl) ?_
    refine chain_callE 81 rfl rfl rfl (fun w => by kernel_rfl) (fun wy hy => (to_deal s nx l p n c wy HN.out (by omega) (HR.out.below hy)).mono ?_)
    rintro e wz ⟨p1, c1, rfl, o1, r1, hc1, b⟩
    refine ⟨_, rfl, b, fun w' => BI w11 w' ∧ Own w' w11.heap.size (.slice p1 n c1) l, ⟨fun _ h => h.1, fun _ h => h.1.size, fun _ h => ⟨Below.alloc h.1 h.1.size _, h.2.alloc _⟩⟩, ⟨BI.next hy b, o1.base hy.size⟩, ?_⟩
    clear b r1 o1 hy
    refine chain_callE 83 rfl rfl rfl (fun w => by kernel_rfl) (fun wy hy => (to_a3 t wy).mono ?_)
    rintro e wz ⟨rfl, b⟩
    refine ⟨_, rfl, b, fun w' => BI w11 w' ∧ Own w' w11.heap.size (.slice p1 n c1) l, ⟨fun _ h => h.1, fun _ h => h.1.size, fun _ h => ⟨Below.alloc h.1 h.1.size _, h.2.alloc _⟩⟩, ⟨BI.next hy.1 b, Own.below hy.2 b⟩, ?_⟩
    clear b hy
    refine chain_callE 84 rfl rfl rfl (fun w => by kernel_rfl) (fun wy hy => (HI.out p1 n c1 _ wy HN.out (by omega) hy.2).mono ?_)
    rintro e wz ⟨vc, rfl, oc, b⟩
    obtain ⟨pc, cc, rfl, hcc, -⟩ := oc.form
    rw [HMm.out] at oc hcc ⊢
    refine ⟨_, rfl, b, fun w' => BI w11 w' ∧ Own w' w11.heap.size (.slice pc m cc) R, ⟨fun _ h => h.1, fun _ h => h.1.size, fun _ h => ⟨Below.alloc h.1 h.1.size _, h.2.alloc _⟩⟩, ⟨BI.next hy.1 b, oc.base hy.1.size⟩, ?_⟩
    clear b hy oc
    refine chain_pure 79 (v := .tuple #[dval s1 n1 (.slice pc m cc), .bool ok]) rfl rfl rfl (fun w => by kernel_rfl) ?_
    refine chain_pure 85 (v := dval s1 n1 (.slice pc m cc)) rfl rfl rfl (fun w => by kernel_rfl) ?_
    refine chain_pure 86 (v := .bool ok) rfl rfl rfl (fun w => by kernel_rfl) ?_
    refine ⟨s1, n1, .slice pc m cc, by kernel_rfl, rfl, by kernel_rfl, ?_⟩
    clear wy wz
    intro wq wd g14 hI hg hb hG hD
    refine ⟨_, ⟨.bool ok, by kernel_rfl, rfl⟩, ?_⟩
    simp only [Act.put, List.setIfInBounds_toArray, List.set_cons_zero, List.set_cons_succ]
    have b : Below w11.heap.size w11 wd := Below.grown hI.1 hG hI.1.size (fun k hk => by injection hk with hk; omega)
    have HOF14 := Lib.hid (own_apart hI.2 hb)
    have Oc := Lib.hid (own_grown hI.2 hG (fun q e e2 => own_apart hI.2 hb q e (by injection e2 with e2; exact e2.symm)))
    have Lc := Lib.hid Oc.out.span
    have Rc := Lib.hid Oc.out.rd
    have K14 := Lib.hid hD
    have GE14 := Lib.hid hg
    clear hI hg hb hG hD wq
    unfold ptr
    have Swd := Lib.hid b.size
    have HB := Lib.hid (chain0 (w := w) (by repeat (first | with_reducible exact Below.refl _ _ | with_reducible exact HB.out | with_reducible apply Below.drew | with_reducible apply bdN | with_reducible refine Below.alloc ?_ (by first | exact Nat.le_refl _ | with_reducible exact HB.out.size | omega | (simp; done) | (simp; omega) | (have := HB.out.size; simp at *; omega)) _ | with_reducible refine Below.setCell ?_ (by first | exact Nat.le_refl _ | with_reducible exact HB.out.size | omega | (simp; done) | (simp; omega) | (have := HB.out.size; simp at *; omega)) _)) b)
    have HR := Lib.hid (Rd.below (by repeat (first | with_reducible exact HR.out | with_reducible apply Rd.drewN | with_reducible apply Rd.drew | with_reducible apply Rd.alloc)) b)
    have K1 := Lib.hid (TBox.below (by repeat (first | with_reducible exact K1.out | with_reducible apply TBox.drewN | with_reducible apply TBox.drew | with_reducible apply TBox.alloc)) b)
    have Ob := Lib.hid (Own.below (by repeat (first | with_reducible exact Ob.out | with_reducible apply Own.drewN | with_reducible apply Own.drew | with_reducible apply Own.alloc)) b)
    have Ra := Lib.hid (Rd.below (by repeat (first | with_reducible exact Ra.out | with_reducible apply Rd.drewN | with_reducible apply Rd.drew | with_reducible apply Rd.alloc)) b)
    have K0 : Hid (DBox _ (w.heap.size) (⟨73, s, nx, .slice p n c⟩)) := Lib.hid (DBox.below (by repeat (first | with_reducible exact K0.out | with_reducible apply DBox.drewN | with_reducible apply DBox.drew | (with_reducible refine DBox.newAt ?_ ?_ <;> first | (simp; done) | rfl) | with_reducible apply DBox.alloc)) b)
    have K6 : Hid (DBox _ (g6) (⟨75, s1, n1, .slice pa m ca⟩)) := Lib.hid (DBox.below (by repeat (first | with_reducible exact K6.out | with_reducible apply DBox.drewN | with_reducible apply DBox.drew | (with_reducible refine DBox.newAt ?_ ?_ <;> first | (simp; done) | rfl) | with_reducible apply DBox.alloc)) b)
    have K9 : Hid (DBox _ (g9) (⟨75, s1, n1, .slice pb m cb⟩)) := Lib.hid (DBox.below (by repeat (first | with_reducible exact K9.out | with_reducible apply DBox.drewN | with_reducible apply DBox.drew | (with_reducible refine DBox.newAt ?_ ?_ <;> first | (simp; done) | rfl) | with_reducible apply DBox.alloc)) b)
    try clear k0a k0b k0c k0d k0z
    have k0z := K0.out.lt
    obtain ⟨k0a, k0b, k0c, k0d⟩ := K0.out.cell
    try clear k6a k6b k6c k6d k6z
    have k6z := K6.out.lt
    obtain ⟨k6a, k6b, k6c, k6d⟩ := K6.out.cell
    try clear k9a k9b k9c k9d k9z
    have k9z := K9.out.lt
    obtain ⟨k9a, k9b, k9c, k9d⟩ := K9.out.cell
    clear b
    obtain ⟨k14a, k14b, k14c, k14d⟩ := K14.out.cell
    have k14z := K14.out.lt
    go_wp2_with fail
    refine ((eq_deal s1 n1 R pc pa m cc ca _ HMm.out (by have := HL.out; omega) Rc.out Ra.out)).mono ?_
    rintro e w14 ⟨rfl, b⟩
    have Sw14 := Lib.hid b.size
    have HB := Lib.hid (chain0 (w := w) (by repeat (first | with_reducible exact Below.refl _ _ | with_reducible exact HB.out | with_reducible apply Below.drew | with_reducible apply bdN | with_reducible refine Below.alloc ?_ (by first | exact Nat.le_refl _ | with_reducible exact HB.out.size | omega | (simp; done) | (simp; omega) | (have := HB.out.size; simp at *; omega)) _ | with_reducible refine Below.setCell ?_ (by first | exact Nat.le_refl _ | with_reducible exact HB.out.size | omega | (simp; done) | (simp; omega) | (have := HB.out.size; simp at *; omega)) _)) b)
    have HR := Lib.hid (Rd.below (by repeat (first | with_reducible exact HR.out | with_reducible apply Rd.drewN | with_reducible apply Rd.drew | with_reducible apply Rd.alloc)) b)
    have K1 := Lib.hid (TBox.below (by repeat (first | with_reducible exact K1.out | with_reducible apply TBox.drewN | with_reducible apply TBox.drew | with_reducible apply TBox.alloc)) b)
    have Ob := Lib.hid (Own.below (by repeat (first | with_reducible exact Ob.out | with_reducible apply Own.drewN | with_reducible apply Own.drew | with_reducible apply Own.alloc)) b)
    have Ra := Lib.hid (Rd.below (by repeat (first | with_reducible exact Ra.out | with_reducible apply Rd.drewN | with_reducible apply Rd.drew | with_reducible apply Rd.alloc)) b)
    have Rc := Lib.hid (Rd.below (by repeat (first | with_reducible exact Rc.out | with_reducible apply Rd.drewN | with_reducible apply Rd.drew | with_reducible apply Rd.alloc)) b)
    have K0 : Hid (DBox _ (w.heap.size) (⟨73, s, nx, .slice p n c⟩)) := Lib.hid (DBox.below (by repeat (first | with_reducible exact K0.out | with_reducible apply DBox.drewN | with_reducible apply DBox.drew | (with_reducible refine DBox.newAt ?_ ?_ <;> first | (simp; done) | rfl) | with_reducible apply DBox.alloc)) b)
    have K6 : Hid (DBox _ (g6) (⟨75, s1, n1, .slice pa m ca⟩)) := Lib.hid (DBox.below (by repeat (first | with_reducible exact K6.out | with_reducible apply DBox.drewN | with_reducible apply DBox.drew | (with_reducible refine DBox.newAt ?_ ?_ <;> first | (simp; done) | rfl) | with_reducible apply DBox.alloc)) b)
    have K9 : Hid (DBox _ (g9) (⟨75, s1, n1, .slice pb m cb⟩)) := Lib.hid (DBox.below (by repeat (first | with_reducible exact K9.out | with_reducible apply DBox.drewN | with_reducible apply DBox.drew | (with_reducible refine DBox.newAt ?_ ?_ <;> first | (simp; done) | rfl) | with_reducible apply DBox.alloc)) b)
    have K14 : Hid (DBox _ (g14) (⟨75, s1, n1, .slice pc m cc⟩)) := Lib.hid (DBox.below (by repeat (first | with_reducible exact K14.out | with_reducible apply DBox.drewN | with_reducible apply DBox.drew | (with_reducible refine DBox.newAt ?_ ?_ <;> first | (simp; done) | rfl) | with_reducible apply DBox.alloc)) b)
    try clear k0a k0b k0c k0d k0z
    have k0z := K0.out.lt
    obtain ⟨k0a, k0b, k0c, k0d⟩ := K0.out.cell
    try clear k6a k6b k6c k6d k6z
    have k6z := K6.out.lt
    obtain ⟨k6a, k6b, k6c, k6d⟩ := K6.out.cell
    try clear k9a k9b k9c k9d k9z
    have k9z := K9.out.lt
    obtain ⟨k9a, k9b, k9c, k9d⟩ := K9.out.cell
    try clear k14a k14b k14c k14d k14z
    have k14z := K14.out.lt
    obtain ⟨k14a, k14b, k14c, k14d⟩ := K14.out.cell
    clear b
    go_wp2_with fail
    refine ((held_deal s1 n1 (.slice pb m cb) _ 1 m _ (by have := HL.out; omega) Ob.out)).mono ?_
    rintro e w15 ⟨rfl, b⟩
    have Sw15 := Lib.hid b.size
    have HB := Lib.hid (chain0 (w := w) (by repeat (first | with_reducible exact Below.refl _ _ | with_reducible exact HB.out | with_reducible apply Below.drew | with_reducible apply bdN | with_reducible refine Below.alloc ?_ (by first | exact Nat.le_refl _ | with_reducible exact HB.out.size | omega | (simp; done) | (simp; omega) | (have := HB.out.size; simp at *; omega)) _ | with_reducible refine Below.setCell ?_ (by first | exact Nat.le_refl _ | with_reducible exact HB.out.size | omega | (simp; done) | (simp; omega) | (have := HB.out.size; simp at *; omega)) _)) b)
    have HR := Lib.hid (Rd.below (by repeat (first | with_reducible exact HR.out | with_reducible apply Rd.drewN | with_reducible apply Rd.drew | with_reducible apply Rd.alloc)) b)
    have K1 := Lib.hid (TBox.below (by repeat (first | with_reducible exact K1.out | with_reducible apply TBox.drewN | with_reducible apply TBox.drew | with_reducible apply TBox.alloc)) b)
    have Ob := Lib.hid (Own.below (by repeat (first | with_reducible exact Ob.out | with_reducible apply Own.drewN | with_reducible apply Own.drew | with_reducible apply Own.alloc)) b)
    have Ra := Lib.hid (Rd.below (by repeat (first | with_reducible exact Ra.out | with_reducible apply Rd.drewN | with_reducible apply Rd.drew | with_reducible apply Rd.alloc)) b)
    have Rc := Lib.hid (Rd.below (by repeat (first | with_reducible exact Rc.out | with_reducible apply Rd.drewN | with_reducible apply Rd.drew | with_reducible apply Rd.alloc)) b)
    have K0 : Hid (DBox _ (w.heap.size) (⟨73, s, nx, .slice p n c⟩)) := Lib.hid (DBox.below (by repeat (first | with_reducible exact K0.out | with_reducible apply DBox.drewN | with_reducible apply DBox.drew | (with_reducible refine DBox.newAt ?_ ?_ <;> first | (simp; done) | rfl) | with_reducible apply DBox.alloc)) b)
    have K6 : Hid (DBox _ (g6) (⟨75, s1, n1, .slice pa m ca⟩)) := Lib.hid (DBox.below (by repeat (first | with_reducible exact K6.out | with_reducible apply DBox.drewN | with_reducible apply DBox.drew | (with_reducible refine DBox.newAt ?_ ?_ <;> first | (simp; done) | rfl) | with_reducible apply DBox.alloc)) b)
    have K9 : Hid (DBox _ (g9) (⟨75, s1, n1, .slice pb m cb⟩)) := Lib.hid (DBox.below (by repeat (first | with_reducible exact K9.out | with_reducible apply DBox.drewN | with_reducible apply DBox.drew | (with_reducible refine DBox.newAt ?_ ?_ <;> first | (simp; done) | rfl) | with_reducible apply DBox.alloc)) b)
    have K14 : Hid (DBox _ (g14) (⟨75, s1, n1, .slice pc m cc⟩)) := Lib.hid (DBox.below (by repeat (first | with_reducible exact K14.out | with_reducible apply DBox.drewN | with_reducible apply DBox.drew | (with_reducible refine DBox.newAt ?_ ?_ <;> first | (simp; done) | rfl) | with_reducible apply DBox.alloc)) b)
    try clear k0a k0b k0c k0d k0z
    have k0z := K0.out.lt
    obtain ⟨k0a, k0b, k0c, k0d⟩ := K0.out.cell
    try clear k6a k6b k6c k6d k6z
    have k6z := K6.out.lt
    obtain ⟨k6a, k6b, k6c, k6d⟩ := K6.out.cell
    try clear k9a k9b k9c k9d k9z
    have k9z := K9.out.lt
    obtain ⟨k9a, k9b, k9c, k9d⟩ := K9.out.cell
    try clear k14a k14b k14c k14d k14z
    have k14z := K14.out.lt
    obtain ⟨k14a, k14b, k14c, k14d⟩ := K14.out.cell
    clear b
    go_wp2_with fail
    go_ret
    exact ⟨rfl, by repeat (first | with_reducible exact Below.refl _ _ | with_reducible exact HB.out | with_reducible apply Below.drew | with_reducible apply bdN | with_reducible refine Below.alloc ?_ (by first | exact Nat.le_refl _ | with_reducible exact HB.out.size | omega | (simp; done) | (simp; omega) | (have := HB.out.size; simp at *; omega)) _ | with_reducible refine Below.setCell ?_ (by first | exact Nat.le_refl _ | with_reducible exact HB.out.size | omega | (simp; done) | (simp; omega) | (have := HB.out.size; simp at *; omega)) _)⟩

theorem own : ownKnob Try.prog.godebug = none := by kernel_rfl
theorem laidOut : laidOutB Try.prog = true := by kernel_rfl
set_option maxRecDepth 100000 in
set_option maxHeartbeats 1000000 in
theorem lifted (os : Os) (started : os.Started) (H : Type) (enc : TypeId × Value → H) :
    ReturnsInHanded {} Try.checked os 6 .any (Rows.fnExactTakeLineSpec.pre6 enc Try.prog Try.f6 Rows.fnExactTakeLineRow.domain false) (Rows.fnExactTakeLineSpec.post enc Try.prog Try.f6 false true false false) := by
  refine returnsInHanded_of_change (C := Try.checked) own started (by kernel_rfl) Try.func6
    (ChangeSpec.witness6 (enc := enc) (C := Try.checked) false ⟨#[], #[.agg #[.int .i64 0, .int .i64 0, .slice none 0 0], .agg #[.int .i64 0, .int .i64 0, .int .i64 0]], []⟩ 8 (by kernel_rfl) (by kernel_rfl) (by kernel_rfl) (by kernel_rfl)) ?_
  intro W base args ds gs before hval0 hW hcnd _
  have hval : ∀ (j : Nat) t v, Try.f6.params[j]? = some t → args[j]? = some v → Value.okWide Try.prog W .any base t v := hval0
  have hW' := hW
  obtain ⟨p, q, hA0, hV, rfl, hfz, hnd⟩ := hW
  have hA : DataW.TrodAll enc Try.prog W 0 (fun _ => true) true Try.f6.params.toList args.toList ds p := hA0
  rw [Try.params6] at hA hval
  have hR := fun (W' : World) (hb : Below W.heap.size W W') => frame.still_all laidOut hb _ _ _ _ (by decide +kernel) hA
  obtain ⟨v0, vs0, d0, ds0, p0, q0, hargs, rfl, hp, h0, r0⟩ := trodAll_cons hA
  obtain ⟨v1, vs1, d1, ds1, p1, q1, rfl, rfl, hp1, h1, r1⟩ := trodAll_cons r0
  obtain ⟨rfl, rfl, hpn⟩ := trodAll_nil r1
  obtain rfl : args = #[v0, v1] := by cases args; simp_all
  obtain ⟨rfl, rfl⟩ := trodVars_none hV
  obtain ⟨s0, x0, b0, n0, c0, l0, rfl, w0⟩ := frame.open_deal Try.underlying73 rfl rfl rfl rfl rfl rfl Try.underlying3 (by kernel_rfl) Try.underlying54 (by kernel_rfl) Try.underlying24 Try.underlying3 (by kernel_rfl) (by kernel_rfl) (by kernel_rfl) (hval 0 73 v0 rfl rfl) h0
  obtain ⟨a1, rfl, w1⟩ := frame.open_a3w Try.underlying25 Try.underlying3 (by kernel_rfl) (by kernel_rfl) (hval 1 25 v1 rfl rfl) h1
  clear hA0 hval0
  simp only [List.append_nil] at hW'
  refine (walk s0 x0 b0 n0 c0 l0 a1 W w0 w1).mono fun e W' ⟨he, hw⟩ => ?_
  subst he
  exact ⟨_, rfl, _, _, _, [], p, [], hW', trodAll_mk1 (shut_bool Try.underlying4 _), hR W' hw, rfl, hw.frame _, fun h => by cases h⟩

theorem over : Rows.fnExactTakeLineRow.holds Try.pinned (OpenSpec.ofChange Rows.fnExactTakeLineSpec) :=
  OpenClaim.holds_of_wide 6 Try.f6 rfl rfl rfl rfl rfl rfl rfl ⟨rfl, rfl, rfl, rfl, rfl⟩ rfl rfl rfl rfl rfl (by kernel_rfl) Try.func6 (by kernel_rfl)
    (of_decide_eq_true (by kernel_rfl)) (by unfold Func.isWrapper; first | (rw [if_pos (by decide +kernel)]; kernel_rfl) | (rw [if_neg (by decide +kernel)]; exact ⟨rfl, rfl⟩))
    (fun os started H enc _ => lifted os started H enc)

theorem proved : Rows.FnExactTakeLineSaid := over
end Go.Proofs.Ytngfdfgeoieebab.lawTakeLine