/- The lines of the cards that lie there: the program's linesOf and the model's l4Lines. -/
import Derived.Test.YtjanphcfflahkaaQb
import Derived.Test.YtjanphcfflahkaaQj
import Derived.Test.YtjanphcfflahkaaLn
namespace Go.Proofs.Ytjanphcfflahkaa.deal
open Go.RowKit
open cards
set_option linter.unusedVariables false

theorem lns_bd (l : List Cd) {n k j : Nat} (hn : l.length = n) (hl : n ≤ 81) (hk : k ≤ n) (hj : j ≤ n) : (lns l k ++ lnR l k j).length ≤ 1000000 := by
  have h1 := lns_len l k
  have h2 := lnR_len l k j
  have h3 : k * l.length ≤ 81 * 81 := Nat.mul_le_mul (by omega) (by omega)
  rw [List.length_append]; omega

end Go.Proofs.Ytjanphcfflahkaa.deal
