/-
  No cell of these rows narrows 'for every input' (looked for: loops, veiled, ifaces, maps, wideKeys, modest, calm, conditions, laid).
  DERIVED. THE GIVEN ROWS OF THIS SEAT. 3 by the template 'for every input the law returns true; each argument reads behind the call as it read before'; 0 by the template 'total and deterministic' (their statements: YtfbcjcfhdclklaaTotals.lean).
  GIVEN WITH THE SEED: the statements are not yours to turn. If you find one false, say at which input.
  Laid BY PROGRAM, IN A SANDBOX (cutbox-rows.mjs): the forced cells as the released guide's own fill.sh prints them over the translation 26843c694fc49246… (all of the seat's roots in one cut). By AI agents, Wed Nov 11 2026. No macro, syntax, notation, axiom, sorry.
-/
import Derived.Test.YtfbcjcfhdclklaaChecked
import GoSem.Claim
import GoSem.ClaimJoined
import GoSem.ClaimMapViews
import Derived.JoinedTies
import Derived.KernelRfl
namespace Go.Proofs.Ytfbcjcfhdclklaa
/- THE CELL 'sum', in the pinned program and in every row, IS THE sha256 OF THE DUMP (.gsa) THAT YtfbcjcfhdclklaaProg.lean LOADS. Nothing in Lean hashes anything: it is a label: what it is worth is what the hold of that sum in a sandbox is worth. -/
noncomputable def Try.pinned : Pinned := { name := "ytfbcjcfhdclklaa", sum := "26843c694fc4924625207bfdc8e1ce6d1a4ea037243c91c5259d545ac5f8fbac", checked := Try.checked }
namespace Rows
def none {H : Type} : Left H := { results := [], args := [] }

/-- 'laws.FnLinesAt': WHATEVER THE INPUT: true; the input reads as it did. -/
def fnLinesAtSpec : ChangeSpec := { name := "fnLinesAt", fn := fun _ => fun
  | [d] => { results := [.lit (.bool true)], args := [d] }
  | _ => none }
def fnLinesAtRow : OpenClaim := { program := "ytfbcjcfhdclklaa", sum := "26843c694fc4924625207bfdc8e1ce6d1a4ea037243c91c5259d545ac5f8fbac", func := "loop.example/g01203/laws.FnLinesAt", spec := "fnLinesAt", unfollowed := true, recurses := true, apart := false }
def FnLinesAtSaid : Prop := fnLinesAtRow.holds Try.pinned (OpenSpec.ofChange fnLinesAtSpec)

/-- ITS FALSE NEIGHBOUR: 'it returns false'. Refute it at one input. -/
def fnLinesAtWrong : ChangeSpec := { name := "fnLinesAt", fn := fun _ => fun
  | [d] => { results := [.lit (.bool false)], args := [d] }
  | _ => none }
def FnLinesAtWrongFalsely : Prop := fnLinesAtRow.holds Try.pinned (OpenSpec.ofChange fnLinesAtWrong)

/-- 'laws.FnPickings': WHATEVER THE INPUT: true; the input reads as it did. -/
def fnPickingsSpec : ChangeSpec := { name := "fnPickings", fn := fun _ => fun
  | [d] => { results := [.lit (.bool true)], args := [d] }
  | _ => none }
def fnPickingsRow : OpenClaim := { program := "ytfbcjcfhdclklaa", sum := "26843c694fc4924625207bfdc8e1ce6d1a4ea037243c91c5259d545ac5f8fbac", func := "loop.example/g01203/laws.FnPickings", spec := "fnPickings", unfollowed := true, recurses := true, apart := false }
def FnPickingsSaid : Prop := fnPickingsRow.holds Try.pinned (OpenSpec.ofChange fnPickingsSpec)

/-- ITS FALSE NEIGHBOUR: 'it returns false'. Refute it at one input. -/
def fnPickingsWrong : ChangeSpec := { name := "fnPickings", fn := fun _ => fun
  | [d] => { results := [.lit (.bool false)], args := [d] }
  | _ => none }
def FnPickingsWrongFalsely : Prop := fnPickingsRow.holds Try.pinned (OpenSpec.ofChange fnPickingsWrong)

/-- 'laws.FnDeckParting': WHATEVER THE INPUT: true; the input reads as it did. -/
def fnDeckPartingSpec : ChangeSpec := { name := "fnDeckParting", fn := fun _ => fun
  | [d] => { results := [.lit (.bool true)], args := [d] }
  | _ => none }
def fnDeckPartingRow : OpenClaim := { program := "ytfbcjcfhdclklaa", sum := "26843c694fc4924625207bfdc8e1ce6d1a4ea037243c91c5259d545ac5f8fbac", func := "loop.example/g01203/laws.FnDeckParting", spec := "fnDeckParting", unfollowed := true, recurses := true, apart := false }
def FnDeckPartingSaid : Prop := fnDeckPartingRow.holds Try.pinned (OpenSpec.ofChange fnDeckPartingSpec)

/-- ITS FALSE NEIGHBOUR: 'it returns false'. Refute it at one input. -/
def fnDeckPartingWrong : ChangeSpec := { name := "fnDeckParting", fn := fun _ => fun
  | [d] => { results := [.lit (.bool false)], args := [d] }
  | _ => none }
def FnDeckPartingWrongFalsely : Prop := fnDeckPartingRow.holds Try.pinned (OpenSpec.ofChange fnDeckPartingWrong)

/- THE SECOND FORM. 'bulk': how many values and letters a reading holds, each counted each time it is reached (what is shared counts as often as it is met; a slice's spare places count too). A statement '..UptoSaid' is the law's where the arguments, and the package variables that the reading takes, are together of bulk at most 1048576: NARROWER than '..Said'. Prove '..Said' where nothing that the law and all that it calls make is longer than what came in: it says more and counts as full. Else prove '..UptoSaid'. A law counts once. -/
mutual
def uptoBulk {H : Type} : DataW H → Nat
  | .lit (.string bytes) => bytes.length + 1
  | .lit _ => 1
  | .nil => 1
  | .ptr d => uptoBulk d + 1
  | .slice elems spare => uptoBulkAll elems + uptoBulkAll spare + 1
  | .agg parts => uptoBulkAll parts + 1
  | .iface _ d => uptoBulk d + 1
  | .map entries => uptoBulkEntries entries + 1
  | .held _ => 1
def uptoBulkAll {H : Type} : List (DataW H) → Nat
  | [] => 0
  | d :: r => uptoBulk d + uptoBulkAll r
def uptoBulkEntries {H : Type} : List (Lit × DataW H) → Nat
  | [] => 0
  | x :: r => uptoBulkEntry x + uptoBulkEntries r
def uptoBulkEntry {H : Type} : Lit × DataW H → Nat
  | (.string bytes, d) => bytes.length + uptoBulk d + 1
  | (_, d) => uptoBulk d + 1
 end
def uptoSmall : (H : Type) → List (DataW H) → Bool := fun _ ds => decide (uptoBulkAll ds ≤ 1048576)
def OpenSpec.upto (s : _root_.Go.ChangeSpec) : _root_.Go.OpenSpec := { _root_.Go.OpenSpec.ofChange s with cond := some uptoSmall }

/-- 'laws.FnLinesAt', WHERE WHAT IT READS IS OF BULK AT MOST 1048576: true; the input reads as it did. -/
def fnLinesAtUptoRow : OpenClaim := { program := "ytfbcjcfhdclklaa", sum := "26843c694fc4924625207bfdc8e1ce6d1a4ea037243c91c5259d545ac5f8fbac", func := "loop.example/g01203/laws.FnLinesAt", spec := "fnLinesAt", unfollowed := true, recurses := true, apart := false, narrowed := true }
def FnLinesAtUptoSaid : Prop := fnLinesAtUptoRow.holds Try.pinned (OpenSpec.upto fnLinesAtSpec)

/-- 'laws.FnPickings', WHERE WHAT IT READS IS OF BULK AT MOST 1048576: true; the input reads as it did. -/
def fnPickingsUptoRow : OpenClaim := { program := "ytfbcjcfhdclklaa", sum := "26843c694fc4924625207bfdc8e1ce6d1a4ea037243c91c5259d545ac5f8fbac", func := "loop.example/g01203/laws.FnPickings", spec := "fnPickings", unfollowed := true, recurses := true, apart := false, narrowed := true }
def FnPickingsUptoSaid : Prop := fnPickingsUptoRow.holds Try.pinned (OpenSpec.upto fnPickingsSpec)

/-- 'laws.FnDeckParting', WHERE WHAT IT READS IS OF BULK AT MOST 1048576: true; the input reads as it did. -/
def fnDeckPartingUptoRow : OpenClaim := { program := "ytfbcjcfhdclklaa", sum := "26843c694fc4924625207bfdc8e1ce6d1a4ea037243c91c5259d545ac5f8fbac", func := "loop.example/g01203/laws.FnDeckParting", spec := "fnDeckParting", unfollowed := true, recurses := true, apart := false, narrowed := true }
def FnDeckPartingUptoSaid : Prop := fnDeckPartingUptoRow.holds Try.pinned (OpenSpec.upto fnDeckPartingSpec)

end Rows
end Go.Proofs.Ytfbcjcfhdclklaa
