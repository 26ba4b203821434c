/- Maps: the orbit of a card, the model's. -/
import Derived.Test.YtfbcjcfhdclklaaMv
namespace Go.Proofs.Ytfbcjcfhdclklaa.maps
open Go.RowKit
open cards reg
set_option linter.unusedVariables false

theorem orbI_one {m : Mp} {c : Cd} (hc : c.ok = true) : orbI m c 1 = [num c] := by unfold orbI; rw [orbT_one hc]; rfl

end Go.Proofs.Ytfbcjcfhdclklaa.maps
