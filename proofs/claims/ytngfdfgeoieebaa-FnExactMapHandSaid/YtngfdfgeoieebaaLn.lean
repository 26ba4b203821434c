/- Three cards a line: the model's test. -/
import Derived.Test.YtngfdfgeoieebaaNm
namespace Go.Proofs.Ytngfdfgeoieebaa.cards
open Go.RowKit
set_option linter.unusedVariables false

end Go.Proofs.Ytngfdfgeoieebaa.cards
