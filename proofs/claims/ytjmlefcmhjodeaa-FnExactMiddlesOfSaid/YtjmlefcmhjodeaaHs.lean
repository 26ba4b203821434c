/- Is a card there? The model. -/
import Derived.Test.YtjmlefcmhjodeaaLm
namespace Go.Proofs.Ytjmlefcmhjodeaa.cards
open Go.RowKit
set_option linter.unusedVariables false

end Go.Proofs.Ytjmlefcmhjodeaa.cards
