/- Three cards a line: the model's test. -/
import Derived.Test.YtfbcjcfhdclklaaNm
namespace Go.Proofs.Ytfbcjcfhdclklaa.cards
open Go.RowKit
set_option linter.unusedVariables false

end Go.Proofs.Ytfbcjcfhdclklaa.cards
