/- Three cards a line: the model's test. -/
import Derived.Test.YtnmlggieabjapaaNm
namespace Go.Proofs.Ytnmlggieabjapaa.cards
open Go.RowKit
set_option linter.unusedVariables false

end Go.Proofs.Ytnmlggieabjapaa.cards
