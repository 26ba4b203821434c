/- MeanLines and ChanceNoLine: the program and the model. -/
import Derived.Test.YtjanphcfflahkaaG3
namespace Go.Proofs.Ytjanphcfflahkaa.chance
open Go.RowKit
open cards reg
set_option linter.unusedVariables false

theorem store_a2 {ops : Array Oper} {rest : List Oper} {o : Oper} {a : Act} {w : World} {Q : Exit → Act → World → Prop} (hgd : o.guard = none) (x y : Operand) (ho : o.op = .store 31 x y) {g : Nat} {p : Int × Int} (h : VB w g 31 (fv p)) (hx : a.eval x = .pointer (some ⟨g, 0, none⟩))
    (q : Int × Int) (hy : a.eval y = .agg (fv q)) (hk : ∀ w', VB w' g 31 (fv q) → w.grownBy w' (some g) → wpList Try.prog ops Q rest (a.put o.dst undef) w') : wpList Try.prog ops Q (o :: rest) a w :=
  store_vb hgd 31 x y ho h (a2_info rfl) hx (fv q) rfl (fv_one q) hy hk
/-- What MeanLines returns. -/
def mlR (n : Int) : (Int × Int) × Bool := if 0 ≤ n ∧ n ≤ 27 then (frac (cho n.toNat 3) 79, true) else ((0, 0), false)
theorem mlR_no {n : Int} (h : n < 0 ∨ 27 < n) : mlR n = ((0, 0), false) := if_neg (by omega)
theorem mlR_yes {k : Nat} (h : k ≤ 27) : mlR k = (frac (cho k 3) 79, true) := by unfold mlR; rw [if_pos (by omega)]; rfl
theorem threes : ∀ k : Fin 28, ((k.val : Int) * (k.val - 1) * (k.val - 2)) = 6 * (cho k.val 3 : Nat) ∧ 0 ≤ (k.val : Int) * (k.val - 1) ∧ (k.val : Int) * (k.val - 1) ≤ 1000 ∧ cho k.val 3 ≤ 3000 := by decide

end Go.Proofs.Ytjanphcfflahkaa.chance
