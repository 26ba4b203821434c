/- LinesIn: the program and the model alike. -/
import Derived.Test.YtjanphcfflahkaaLm
namespace Go.Proofs.Ytjanphcfflahkaa.cards
open Go.RowKit
set_option linter.unusedVariables false

noncomputable def linR (l : List Cd) : List A3 × Bool := if handB l = true then (allL l l.length, true) else ([], false)
theorem linR_len (l : List Cd) : (linR l).1.length ≤ 100000000 := by
  unfold linR
  split
  · rename_i h
    have h1 := (handB_true.1 h).1
    have h2 := allL_len l l.length
    have h3 : l.length * l.length ≤ 27 * 27 := Nat.mul_le_mul h1 h1
    show (allL l l.length).length ≤ _
    omega
  · simp
end Go.Proofs.Ytjanphcfflahkaa.cards
