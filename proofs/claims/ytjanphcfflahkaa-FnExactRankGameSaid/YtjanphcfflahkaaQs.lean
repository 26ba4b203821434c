/- A line that is taken: the program's takeLine. -/
import Derived.Test.YtjanphcfflahkaaQl
import Derived.Test.YtjanphcfflahkaaQt
namespace Go.Proofs.Ytjanphcfflahkaa.deal
open Go.RowKit
open cards
set_option linter.unusedVariables false

theorem inA_iff {t : A3} {k : Nat} : decide ((k : Int) ∈ [t.a, t.b, t.c]) = inA t k := by
  unfold inA
  rw [Bool.eq_iff_iff, decide_eq_true_iff, decide_eq_true_iff]; simp
theorem keep_le (l : List Cd) (t : A3) (k : Nat) : (keep l t k).length ≤ k := by
  have := (keep_sub l t k).length_le
  rw [List.length_take] at this; omega
end Go.Proofs.Ytjanphcfflahkaa.deal
