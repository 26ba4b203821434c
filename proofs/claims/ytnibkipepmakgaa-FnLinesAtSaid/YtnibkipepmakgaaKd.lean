/- Draws: a card that is often near another one. -/
import Derived.Test.YtnibkipepmakgaaKc
namespace Go.Proofs.Ytnibkipepmakgaa.draw
open Go.RowKit
open cards
set_option linter.unusedVariables false

end Go.Proofs.Ytnibkipepmakgaa.draw
