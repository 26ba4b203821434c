/- Three cards that are drawn and make a line; two that differ. -/
import Derived.Test.YtjanphcfflahkaaGn
import Derived.Test.YtjanphcfflahkaaC4
import Derived.Test.YtjanphcfflahkaaC6
namespace Go.Proofs.Ytjanphcfflahkaa.chance
open Go.RowKit
open cards reg
set_option linter.unusedVariables false

/-- Three cards make a line. -/
def line3 : List Cd → Bool
  | [x, y, z] => line x y z
  | _ => false
/-- In how many traits two cards differ. -/
def dif2 : List Cd → Nat
  | [x, y] => (dif x y).toNat
  | _ => 0
theorem dif_nn (x y : Cd) : 0 ≤ dif x y ∧ dif x y ≤ 4 := by
  have h : ∀ b, 0 ≤ one b ∧ one b ≤ 1 := fun b => by cases b <;> simp [one]
  unfold dif
  have h1 := h (decide (x.a ≠ y.a)); have h2 := h (decide (x.b ≠ y.b)); have h3 := h (decide (x.c ≠ y.c)); have h4 := h (decide (x.d ≠ y.d))
  omega

set_option maxRecDepth 100000 in
set_option maxHeartbeats 2000000 in
theorem fit_line (w0 : World) (l : List Cd) (hok : l.all Cd.ok = true) : FitAt 55 #[] #[] w0 l 3 line3 := by
  refine ⟨fun args w => by kernel_rfl, fun w ps g m c hb hr hsub hm hn hmc => ?_⟩
  subst hn
  have hk := ok_sub hok hsub
  obtain ⟨x, y, z, rfl⟩ : ∃ x y z, ps = [x, y, z] := by
    match ps, hm with
    | [x, y, z], _ => exact ⟨x, y, z, rfl⟩
  simp at hk
  obtain ⟨kx, ky, kz⟩ := hk
  obtain ⟨b0, o0, x0, e0, h0, hx0, c0, c1, c2, c3⟩ := hr.card (k := 0) (by simp)
  obtain ⟨b1, o1, x1, e1, h1, hx1, d0, d1, d2, d3⟩ := hr.card (k := 1) (by simp)
  obtain ⟨b2, o2, x2, e2, h2, hx2, f0, f1, f2, f3⟩ := hr.card (k := 2) (by simp)
  simp at hx0 hx1 hx2
  subst hx0; subst hx1; subst hx2
  injection e0 with e0; injection e0 with e0 e0'
  subst e0; subst e0'
  injection e1 with e1; injection e1 with e1 e1'
  subst e1; subst e1'
  injection e2 with e2; injection e2 with e2 e2'
  subst e2; subst e2'
  simp only [Nat.zero_add, Nat.zero_mul, Nat.add_zero, Nat.one_mul, Nat.reduceMul, Nat.reduceAdd] at c0 c1 c2 c3 d0 d1 d2 d3 f0 f1 f2 f3
  clear hr hsub hb hok
  show Calls Try.prog 55 #[.slice (some ⟨g, 0, none⟩) 3 c] w _
  show Calls _ _ _ _ (fun e w' => e = .returned (.bool (line x y z)) ∧ Below w.heap.size w w')
  obtain ⟨t, ht⟩ : ∃ t, line x y z = t := ⟨_, rfl⟩
  have HL := Lib.hid (fun w => are_line x y z w kx ky kz)
  rw [ht] at HL ⊢
  clear kx ky kz ht
  have HB : Hid (Below w.heap.size w w) := Lib.hid (Below.refl _ _)
  go_enter Try.func55, Try.ntmps55
  go_wp2_with fail
  have qc0 := fun d os => cell_regrown c0 d os
  have qc1 := fun d os => cell_regrown c1 d os
  have qc2 := fun d os => cell_regrown c2 d os
  have qc3 := fun d os => cell_regrown c3 d os
  have qd0 := fun d os => cell_regrown d0 d os
  have qd1 := fun d os => cell_regrown d1 d os
  have qd2 := fun d os => cell_regrown d2 d os
  have qd3 := fun d os => cell_regrown d3 d os
  have qf0 := fun d os => cell_regrown f0 d os
  have qf1 := fun d os => cell_regrown f1 d os
  have qf2 := fun d os => cell_regrown f2 d os
  have qf3 := fun d os => cell_regrown f3 d os
  refine wp_region_quiet_below (by kernel_rfl) (by kernel_rfl) ?_
  repeat (first | go_big_quiet_step ((go_at_call 45; with_reducible exact Calls.regrown_of (HL.out _))) | quiet_step ((go_at_call 45; with_reducible exact Calls.regrown_of (HL.out _))))
  refine wpQuiet_nil ?_
  intro w2 hw2
  have b : Below w.heap.size w w2 := by obtain ⟨r, hr⟩ := hw2; rw [hr]; exact below_regrown _ _ _
  clear hw2 qc0 qc1 qc2 qc3 qd0 qd1 qd2 qd3 qf0 qf1 qf2 qf3
  have Sw2 := Lib.hid b.size
  have HB := Lib.hid (chain0 (w := w) (by repeat (first | with_reducible exact Below.refl _ _ | with_reducible exact HB.out | with_reducible apply Below.drew | with_reducible apply bdN | with_reducible refine Below.alloc ?_ (by first | exact Nat.le_refl _ | with_reducible exact HB.out.size | omega | (simp; done) | (simp; omega) | (have := HB.out.size; simp at *; omega)) _ | with_reducible refine Below.setCell ?_ (by first | exact Nat.le_refl _ | with_reducible exact HB.out.size | omega | (simp; done) | (simp; omega) | (have := HB.out.size; simp at *; omega)) _)) b)
  clear b
  go_wp2_with fail
  go_ret
  exact ⟨rfl, HB.out⟩

end Go.Proofs.Ytjanphcfflahkaa.chance
