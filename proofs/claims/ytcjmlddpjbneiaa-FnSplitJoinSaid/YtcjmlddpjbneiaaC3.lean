/- Cards: numbers of cards and cards with numbers, in how many traits two differ: the program and the model alike. -/
import Derived.Test.YtcjmlddpjbneiaaC2
namespace Go.Proofs.Ytcjmlddpjbneiaa.cards
open Go.RowKit
set_option linter.unusedVariables false

def numR (x : Cd) : Int × Bool := if x.ok then (num x, true) else (0, false)

end Go.Proofs.Ytcjmlddpjbneiaa.cards
