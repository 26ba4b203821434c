/- Draws: a card that is often near another one. -/
import Derived.Test.YtcjmlddpjbneiaaKc
namespace Go.Proofs.Ytcjmlddpjbneiaa.draw
open Go.RowKit
open cards
set_option linter.unusedVariables false

end Go.Proofs.Ytcjmlddpjbneiaa.draw
