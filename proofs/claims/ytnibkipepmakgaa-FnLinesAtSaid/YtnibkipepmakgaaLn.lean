/- Three cards a line: the model's test. -/
import Derived.Test.YtnibkipepmakgaaNm
namespace Go.Proofs.Ytnibkipepmakgaa.cards
open Go.RowKit
set_option linter.unusedVariables false

end Go.Proofs.Ytnibkipepmakgaa.cards
