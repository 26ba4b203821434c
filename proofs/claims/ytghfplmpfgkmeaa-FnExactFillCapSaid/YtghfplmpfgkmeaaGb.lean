/- The mean of what is counted in draws. -/
import Derived.Test.YtghfplmpfgkmeaaGa
import Derived.Test.YtghfplmpfgkmeaaG4
namespace Go.Proofs.Ytghfplmpfgkmeaa.chance
open Go.RowKit
open cards reg
set_option linter.unusedVariables false

/-- What a mean of T in D draws is. -/
def mdR (T D : Nat) : (Int × Int) × Bool := if D = 0 then ((0, 0), false) else (frac T D, true)

/-- What a function value tells of the draws of n of l. -/
structure FitAt (fn : FuncId) (first caps : Array Value) (w0 : World) (l : List Cd) (n : Nat) (fit : List Cd → Bool) : Prop where
  go : ∀ (args : Array Value) (w : World), (callFunc fn args).run Try.prog w = .ok (.enter fn args) w
  call : ∀ (w : World) (ps : List Cd) (g m c : Nat), Below w0.heap.size w0 w → Rd w (some ⟨g, 0, none⟩) (flat ps) → ps.Sublist l → ps.length = m → m = n → m ≤ c →
    Calls Try.prog fn (first.push (.slice (some ⟨g, 0, none⟩) m c) ++ caps) w fun e w' => e = .returned (.bool (fit ps)) ∧ Below w.heap.size w w'
theorem FitAt.later {fn : FuncId} {first caps : Array Value} {w0 w1 : World} {l : List Cd} {n : Nat} {fit : List Cd → Bool} (h : FitAt fn first caps w0 l n fit) (b : Below w0.heap.size w0 w1) : FitAt fn first caps w1 l n fit :=
  ⟨h.go, fun w ps g m c hb => h.call w ps g m c (b.trans (hb.mono b.size))⟩
def nat (b : Bool) : Nat := if b then 1 else 0
theorem nat_le (b : Bool) : nat b ≤ 1 := by cases b <;> decide

end Go.Proofs.Ytghfplmpfgkmeaa.chance
