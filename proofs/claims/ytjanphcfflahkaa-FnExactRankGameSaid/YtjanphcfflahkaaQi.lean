/- PileOf: the program and the model alike. -/
import Derived.Test.YtjanphcfflahkaaQh
namespace Go.Proofs.Ytjanphcfflahkaa.deal
open Go.RowKit
open cards
set_option linter.unusedVariables false

noncomputable def pileR (s : Int) : List Cd × Bool := if isSd s = true then (pile s, true) else ([], false)
theorem pileR_len (s : Int) : (pileR s).1.length ≤ 1000 := by
  unfold pileR; split
  · show (pile s).length ≤ _; rw [pile_len]; omega
  · simp
end Go.Proofs.Ytjanphcfflahkaa.deal
