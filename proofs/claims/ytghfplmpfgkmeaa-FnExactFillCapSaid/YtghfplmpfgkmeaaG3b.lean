/- Appends at the type [][4]int. -/
import Derived.Test.YtghfplmpfgkmeaaG2a
namespace Go.Proofs.Ytghfplmpfgkmeaa.chance
open Go.RowKit
open cards reg
set_option linter.unusedVariables false

theorem append_as (t1 t2 ty : TypeId) (h1 : (Try.prog).underlying t1 = some (.slice 32)) (h2 : (Try.prog).underlying t2 = some (.slice 32)) (p : Option Addr) (n c : Nat) (q : Option Addr) (m d : Nat) (w : World) :
    (Builtin.append_ #[t1, t2] ty #[.slice p n c, .slice q m d]).run Try.prog w = (Builtin.append_ #[22, 22] ty #[.slice p n c, .slice q m d]).run Try.prog w := by
  have hu := Try.underlying22
  simp [Builtin.append_, run_underlying h1, run_underlying h2, run_underlying hu]
theorem und_holder : (Try.prog).underlying 22 = some (.slice 32) := Try.underlying22
end Go.Proofs.Ytghfplmpfgkmeaa.chance
