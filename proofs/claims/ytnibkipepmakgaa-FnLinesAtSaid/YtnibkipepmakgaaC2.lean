/- Cards: numbers of cards, third cards, lines, kinds, in how many traits two differ: the program and the model alike. -/
import Derived.Test.YtnibkipepmakgaaNm
namespace Go.Proofs.Ytnibkipepmakgaa.cards
open Go.RowKit
set_option linter.unusedVariables false

/-- What ThirdCard returns. -/
def thirdR (x y : Cd) : Cd × Bool := if x.ok && y.ok && !same x y then (third x y, true) else (zero, false)

end Go.Proofs.Ytnibkipepmakgaa.cards
