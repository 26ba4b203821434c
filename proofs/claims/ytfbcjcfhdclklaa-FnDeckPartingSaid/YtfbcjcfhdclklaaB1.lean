/- DeckParting: that its lines part the deck, for each of the 80 steps. -/
import Derived.Test.YtfbcjcfhdclklaaZ9
import Derived.Test.YtfbcjcfhdclklaaC6
import Derived.Test.YtfbcjcfhdclklaaC7
namespace Go.Proofs.Ytfbcjcfhdclklaa.parting
open Go.RowKit
open cards
set_option linter.unusedVariables false

/-- The numbers of a list's lines, one after the other. -/
def ent : List A3 → List Int
  | [] => []
  | x :: r => x.a :: x.b :: x.c :: ent r
def lnB (x : A3) : Bool := decide (0 ≤ x.a ∧ x.a ≤ 80 ∧ 0 ≤ x.b ∧ x.b ≤ 80 ∧ 0 ≤ x.c ∧ x.c ≤ 80) && decide (lineR (cdAt x.a) (cdAt x.b) (cdAt x.c) = (true, true))
def upB : List A3 → Bool
  | x :: y :: r => decide (x.a < y.a) && upB (y :: r)
  | _ => true
def elB (n : Nat) : List Nat → Bool
  | [] => false
  | m :: r => Nat.beq n m || elB n r
def ndB : List Nat → Bool
  | [] => true
  | m :: r => !elB m r && ndB r
def goodP (R : List A3) : Bool := Nat.beq R.length 27 && R.all lnB && upB R && ndB ((ent R).map Int.toNat)
set_option maxRecDepth 100000 in
theorem all_good : ((List.range 80).all fun i => goodP (dpL (cdAt ((i : Int) + 1)) 81)) = true := by decide +kernel
end Go.Proofs.Ytfbcjcfhdclklaa.parting
