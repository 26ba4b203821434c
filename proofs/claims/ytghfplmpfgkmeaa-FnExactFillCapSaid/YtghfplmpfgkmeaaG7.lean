/- What is counted of each draw: the closure of meanDrawn. -/
import Derived.Test.YtghfplmpfgkmeaaG2
import Derived.Test.YtghfplmpfgkmeaaPs
import Derived.Test.YtghfplmpfgkmeaaZx
namespace Go.Proofs.Ytghfplmpfgkmeaa.chance
open Go.RowKit
open cards reg
set_option linter.unusedVariables false

/-- What a function value counts of the draws of n of l, at worlds that hold what w0 held. -/
structure CountAt (fn : FuncId) (first caps : Array Value) (w0 : World) (l : List Cd) (n : Nat) (cnt : List Cd → Nat) : Prop where
  go : ∀ (args : Array Value) (w : World), (callFunc fn args).run Try.prog w = .ok (.enter fn args) w
  call : ∀ (w : World) (ps : List Cd) (g m c : Nat), Below w0.heap.size w0 w → Rd w (some ⟨g, 0, none⟩) (flat ps) → ps.Sublist l → ps.length = m → m = n → m ≤ c →
    Calls Try.prog fn (first.push (.slice (some ⟨g, 0, none⟩) m c) ++ caps) w fun e w' => e = .returned (.int .i64 (cnt ps : Nat)) ∧ Below w.heap.size w w'
end Go.Proofs.Ytghfplmpfgkmeaa.chance
