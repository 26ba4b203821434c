/- The model's fractions and choices. -/
import Derived.Test.YtghfplmpfgkmeaaG2
namespace Go.Proofs.Ytghfplmpfgkmeaa.chance
open Go.RowKit
open cards reg
set_option linter.unusedVariables false

end Go.Proofs.Ytghfplmpfgkmeaa.chance
