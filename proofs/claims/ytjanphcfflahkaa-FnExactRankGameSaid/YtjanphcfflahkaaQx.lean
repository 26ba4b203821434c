/- Stuck Deals, Deals that are over, lines of a Deal: the program and the model alike. -/
import Derived.Test.YtjanphcfflahkaaQq
import Derived.Test.YtjanphcfflahkaaQn
namespace Go.Proofs.Ytjanphcfflahkaa.deal
open Go.RowKit
open cards
set_option linter.unusedVariables false

noncomputable def dlR (d : Dl) : List A3 × Bool := if d.ok = true then (lines d.l, true) else ([], false)
theorem dlR_len (d : Dl) : (dlR d).1.length ≤ 10000 := by
  unfold dlR; split
  · rename_i h
    have h1 := lines_len d.l
    have h2 : d.l.length * d.l.length ≤ 81 * 81 := Nat.mul_le_mul (Dl.ok_iff.1 h).len81 (Dl.ok_iff.1 h).len81
    show (lines d.l).length ≤ _
    omega
  · simp
noncomputable def stR (d : Dl) : Bool × Bool := if d.ok = true then (stuckD d, true) else (false, false)
noncomputable def ovR (d : Dl) : Bool × Bool := if d.ok = true then (overD d, true) else (false, false)

end Go.Proofs.Ytjanphcfflahkaa.deal
