/-
  No cell of these rows narrows 'for every input' (looked for: loops, veiled, ifaces, maps, wideKeys, modest, calm, conditions, laid).
  DERIVED. THE GIVEN ROWS OF THIS SEAT. 12 by the template 'for every input the law returns true; each argument reads behind the call as it read before'; 0 by the template 'total and deterministic' (their statements: YtnmlggieabjapaaTotals.lean).
  GIVEN WITH THE SEED: the statements are not yours to turn. If you find one false, say at which input.
  Laid BY PROGRAM, IN A SANDBOX (cutbox-rows.mjs): the forced cells as the released guide's own fill.sh prints them over the translation 5cc465499b842af3… (all of the seat's roots in one cut). By AI agents, Wed Nov 11 2026. No macro, syntax, notation, axiom, sorry.
-/
import Derived.Test.YtnmlggieabjapaaChecked
import GoSem.Claim
import GoSem.ClaimJoined
import GoSem.ClaimMapViews
import Derived.JoinedTies
import Derived.KernelRfl
namespace Go.Proofs.Ytnmlggieabjapaa
/- THE CELL 'sum', in the pinned program and in every row, IS THE sha256 OF THE DUMP (.gsa) THAT YtnmlggieabjapaaProg.lean LOADS. Nothing in Lean hashes anything: it is a label: what it is worth is what the hold of that sum in a sandbox is worth. -/
noncomputable def Try.pinned : Pinned := { name := "ytnmlggieabjapaa", sum := "5cc465499b842af378ed60961c881571373b6141c5d414ff1b9c71c63866cf3c", checked := Try.checked }
namespace Rows
def none {H : Type} : Left H := { results := [], args := [] }

/-- 'laws.FnExactLinesAt': WHATEVER THE INPUT: true; the input reads as it did. -/
def fnExactLinesAtSpec : ChangeSpec := { name := "fnExactLinesAt", fn := fun _ => fun
  | [d1, d2] => { results := [.lit (.bool true)], args := [d1, d2] }
  | _ => none }
def fnExactLinesAtRow : OpenClaim := { program := "ytnmlggieabjapaa", sum := "5cc465499b842af378ed60961c881571373b6141c5d414ff1b9c71c63866cf3c", func := "loop.example/g01203/laws.FnExactLinesAt", spec := "fnExactLinesAt", unfollowed := true, recurses := true, apart := false }
def FnExactLinesAtSaid : Prop := fnExactLinesAtRow.holds Try.pinned (OpenSpec.ofChange fnExactLinesAtSpec)

/-- ITS FALSE NEIGHBOUR: 'it returns false'. Refute it at one input. -/
def fnExactLinesAtWrong : ChangeSpec := { name := "fnExactLinesAt", fn := fun _ => fun
  | [d1, d2] => { results := [.lit (.bool false)], args := [d1, d2] }
  | _ => none }
def FnExactLinesAtWrongFalsely : Prop := fnExactLinesAtRow.holds Try.pinned (OpenSpec.ofChange fnExactLinesAtWrong)

/-- 'laws.FnExactLineCounts': WHATEVER THE INPUT: true; the input reads as it did. -/
def fnExactLineCountsSpec : ChangeSpec := { name := "fnExactLineCounts", fn := fun _ => fun
  | [d] => { results := [.lit (.bool true)], args := [d] }
  | _ => none }
def fnExactLineCountsRow : OpenClaim := { program := "ytnmlggieabjapaa", sum := "5cc465499b842af378ed60961c881571373b6141c5d414ff1b9c71c63866cf3c", func := "loop.example/g01203/laws.FnExactLineCounts", spec := "fnExactLineCounts", unfollowed := true, recurses := true, apart := false }
def FnExactLineCountsSaid : Prop := fnExactLineCountsRow.holds Try.pinned (OpenSpec.ofChange fnExactLineCountsSpec)

/-- ITS FALSE NEIGHBOUR: 'it returns false'. Refute it at one input. -/
def fnExactLineCountsWrong : ChangeSpec := { name := "fnExactLineCounts", fn := fun _ => fun
  | [d] => { results := [.lit (.bool false)], args := [d] }
  | _ => none }
def FnExactLineCountsWrongFalsely : Prop := fnExactLineCountsRow.holds Try.pinned (OpenSpec.ofChange fnExactLineCountsWrong)

/-- 'laws.FnExactOpenPairs': WHATEVER THE INPUT: true; the input reads as it did. -/
def fnExactOpenPairsSpec : ChangeSpec := { name := "fnExactOpenPairs", fn := fun _ => fun
  | [d] => { results := [.lit (.bool true)], args := [d] }
  | _ => none }
def fnExactOpenPairsRow : OpenClaim := { program := "ytnmlggieabjapaa", sum := "5cc465499b842af378ed60961c881571373b6141c5d414ff1b9c71c63866cf3c", func := "loop.example/g01203/laws.FnExactOpenPairs", spec := "fnExactOpenPairs", unfollowed := true, recurses := true, apart := false }
def FnExactOpenPairsSaid : Prop := fnExactOpenPairsRow.holds Try.pinned (OpenSpec.ofChange fnExactOpenPairsSpec)

/-- ITS FALSE NEIGHBOUR: 'it returns false'. Refute it at one input. -/
def fnExactOpenPairsWrong : ChangeSpec := { name := "fnExactOpenPairs", fn := fun _ => fun
  | [d] => { results := [.lit (.bool false)], args := [d] }
  | _ => none }
def FnExactOpenPairsWrongFalsely : Prop := fnExactOpenPairsRow.holds Try.pinned (OpenSpec.ofChange fnExactOpenPairsWrong)

/-- 'laws.FnExactCountCrossings': WHATEVER THE INPUT: true; the input reads as it did. -/
def fnExactCountCrossingsSpec : ChangeSpec := { name := "fnExactCountCrossings", fn := fun _ => fun
  | [d] => { results := [.lit (.bool true)], args := [d] }
  | _ => none }
def fnExactCountCrossingsRow : OpenClaim := { program := "ytnmlggieabjapaa", sum := "5cc465499b842af378ed60961c881571373b6141c5d414ff1b9c71c63866cf3c", func := "loop.example/g01203/laws.FnExactCountCrossings", spec := "fnExactCountCrossings", unfollowed := true, recurses := true, apart := false }
def FnExactCountCrossingsSaid : Prop := fnExactCountCrossingsRow.holds Try.pinned (OpenSpec.ofChange fnExactCountCrossingsSpec)

/-- ITS FALSE NEIGHBOUR: 'it returns false'. Refute it at one input. -/
def fnExactCountCrossingsWrong : ChangeSpec := { name := "fnExactCountCrossings", fn := fun _ => fun
  | [d] => { results := [.lit (.bool false)], args := [d] }
  | _ => none }
def FnExactCountCrossingsWrongFalsely : Prop := fnExactCountCrossingsRow.holds Try.pinned (OpenSpec.ofChange fnExactCountCrossingsWrong)

/-- 'laws.FnExactIsPicking': WHATEVER THE INPUT: true; the input reads as it did. -/
def fnExactIsPickingSpec : ChangeSpec := { name := "fnExactIsPicking", fn := fun _ => fun
  | [d1, d2] => { results := [.lit (.bool true)], args := [d1, d2] }
  | _ => none }
def fnExactIsPickingRow : OpenClaim := { program := "ytnmlggieabjapaa", sum := "5cc465499b842af378ed60961c881571373b6141c5d414ff1b9c71c63866cf3c", func := "loop.example/g01203/laws.FnExactIsPicking", spec := "fnExactIsPicking", unfollowed := true, recurses := true, apart := false }
def FnExactIsPickingSaid : Prop := fnExactIsPickingRow.holds Try.pinned (OpenSpec.ofChange fnExactIsPickingSpec)

/-- ITS FALSE NEIGHBOUR: 'it returns false'. Refute it at one input. -/
def fnExactIsPickingWrong : ChangeSpec := { name := "fnExactIsPicking", fn := fun _ => fun
  | [d1, d2] => { results := [.lit (.bool false)], args := [d1, d2] }
  | _ => none }
def FnExactIsPickingWrongFalsely : Prop := fnExactIsPickingRow.holds Try.pinned (OpenSpec.ofChange fnExactIsPickingWrong)

/-- 'laws.FnExactMostDisjoint': WHATEVER THE INPUT: true; the input reads as it did. -/
def fnExactMostDisjointSpec : ChangeSpec := { name := "fnExactMostDisjoint", fn := fun _ => fun
  | [d] => { results := [.lit (.bool true)], args := [d] }
  | _ => none }
def fnExactMostDisjointRow : OpenClaim := { program := "ytnmlggieabjapaa", sum := "5cc465499b842af378ed60961c881571373b6141c5d414ff1b9c71c63866cf3c", func := "loop.example/g01203/laws.FnExactMostDisjoint", spec := "fnExactMostDisjoint", unfollowed := true, recurses := true, apart := false }
def FnExactMostDisjointSaid : Prop := fnExactMostDisjointRow.holds Try.pinned (OpenSpec.ofChange fnExactMostDisjointSpec)

/-- ITS FALSE NEIGHBOUR: 'it returns false'. Refute it at one input. -/
def fnExactMostDisjointWrong : ChangeSpec := { name := "fnExactMostDisjoint", fn := fun _ => fun
  | [d] => { results := [.lit (.bool false)], args := [d] }
  | _ => none }
def FnExactMostDisjointWrongFalsely : Prop := fnExactMostDisjointRow.holds Try.pinned (OpenSpec.ofChange fnExactMostDisjointWrong)

/-- 'laws.FnExactFirstPicking': WHATEVER THE INPUT: true; the input reads as it did. -/
def fnExactFirstPickingSpec : ChangeSpec := { name := "fnExactFirstPicking", fn := fun _ => fun
  | [d] => { results := [.lit (.bool true)], args := [d] }
  | _ => none }
def fnExactFirstPickingRow : OpenClaim := { program := "ytnmlggieabjapaa", sum := "5cc465499b842af378ed60961c881571373b6141c5d414ff1b9c71c63866cf3c", func := "loop.example/g01203/laws.FnExactFirstPicking", spec := "fnExactFirstPicking", unfollowed := true, recurses := true, apart := false }
def FnExactFirstPickingSaid : Prop := fnExactFirstPickingRow.holds Try.pinned (OpenSpec.ofChange fnExactFirstPickingSpec)

/-- ITS FALSE NEIGHBOUR: 'it returns false'. Refute it at one input. -/
def fnExactFirstPickingWrong : ChangeSpec := { name := "fnExactFirstPicking", fn := fun _ => fun
  | [d] => { results := [.lit (.bool false)], args := [d] }
  | _ => none }
def FnExactFirstPickingWrongFalsely : Prop := fnExactFirstPickingRow.holds Try.pinned (OpenSpec.ofChange fnExactFirstPickingWrong)

/-- 'laws.FnExactCountPickings': WHATEVER THE INPUT: true; the input reads as it did. -/
def fnExactCountPickingsSpec : ChangeSpec := { name := "fnExactCountPickings", fn := fun _ => fun
  | [d1, d2] => { results := [.lit (.bool true)], args := [d1, d2] }
  | _ => none }
def fnExactCountPickingsRow : OpenClaim := { program := "ytnmlggieabjapaa", sum := "5cc465499b842af378ed60961c881571373b6141c5d414ff1b9c71c63866cf3c", func := "loop.example/g01203/laws.FnExactCountPickings", spec := "fnExactCountPickings", unfollowed := true, recurses := true, apart := false }
def FnExactCountPickingsSaid : Prop := fnExactCountPickingsRow.holds Try.pinned (OpenSpec.ofChange fnExactCountPickingsSpec)

/-- ITS FALSE NEIGHBOUR: 'it returns false'. Refute it at one input. -/
def fnExactCountPickingsWrong : ChangeSpec := { name := "fnExactCountPickings", fn := fun _ => fun
  | [d1, d2] => { results := [.lit (.bool false)], args := [d1, d2] }
  | _ => none }
def FnExactCountPickingsWrongFalsely : Prop := fnExactCountPickingsRow.holds Try.pinned (OpenSpec.ofChange fnExactCountPickingsWrong)

/-- 'laws.FnExactCountPartings': WHATEVER THE INPUT: true; the input reads as it did. -/
def fnExactCountPartingsSpec : ChangeSpec := { name := "fnExactCountPartings", fn := fun _ => fun
  | [d] => { results := [.lit (.bool true)], args := [d] }
  | _ => none }
def fnExactCountPartingsRow : OpenClaim := { program := "ytnmlggieabjapaa", sum := "5cc465499b842af378ed60961c881571373b6141c5d414ff1b9c71c63866cf3c", func := "loop.example/g01203/laws.FnExactCountPartings", spec := "fnExactCountPartings", unfollowed := true, recurses := true, apart := false }
def FnExactCountPartingsSaid : Prop := fnExactCountPartingsRow.holds Try.pinned (OpenSpec.ofChange fnExactCountPartingsSpec)

/-- ITS FALSE NEIGHBOUR: 'it returns false'. Refute it at one input. -/
def fnExactCountPartingsWrong : ChangeSpec := { name := "fnExactCountPartings", fn := fun _ => fun
  | [d] => { results := [.lit (.bool false)], args := [d] }
  | _ => none }
def FnExactCountPartingsWrongFalsely : Prop := fnExactCountPartingsRow.holds Try.pinned (OpenSpec.ofChange fnExactCountPartingsWrong)

/-- 'laws.FnExactGreedyPicking': WHATEVER THE INPUT: true; the input reads as it did. -/
def fnExactGreedyPickingSpec : ChangeSpec := { name := "fnExactGreedyPicking", fn := fun _ => fun
  | [d] => { results := [.lit (.bool true)], args := [d] }
  | _ => none }
def fnExactGreedyPickingRow : OpenClaim := { program := "ytnmlggieabjapaa", sum := "5cc465499b842af378ed60961c881571373b6141c5d414ff1b9c71c63866cf3c", func := "loop.example/g01203/laws.FnExactGreedyPicking", spec := "fnExactGreedyPicking", unfollowed := true, recurses := true, apart := false }
def FnExactGreedyPickingSaid : Prop := fnExactGreedyPickingRow.holds Try.pinned (OpenSpec.ofChange fnExactGreedyPickingSpec)

/-- ITS FALSE NEIGHBOUR: 'it returns false'. Refute it at one input. -/
def fnExactGreedyPickingWrong : ChangeSpec := { name := "fnExactGreedyPicking", fn := fun _ => fun
  | [d] => { results := [.lit (.bool false)], args := [d] }
  | _ => none }
def FnExactGreedyPickingWrongFalsely : Prop := fnExactGreedyPickingRow.holds Try.pinned (OpenSpec.ofChange fnExactGreedyPickingWrong)

/-- 'laws.FnExactLeftCards': WHATEVER THE INPUT: true; the input reads as it did. -/
def fnExactLeftCardsSpec : ChangeSpec := { name := "fnExactLeftCards", fn := fun _ => fun
  | [d1, d2] => { results := [.lit (.bool true)], args := [d1, d2] }
  | _ => none }
def fnExactLeftCardsRow : OpenClaim := { program := "ytnmlggieabjapaa", sum := "5cc465499b842af378ed60961c881571373b6141c5d414ff1b9c71c63866cf3c", func := "loop.example/g01203/laws.FnExactLeftCards", spec := "fnExactLeftCards", unfollowed := true, recurses := true, apart := false }
def FnExactLeftCardsSaid : Prop := fnExactLeftCardsRow.holds Try.pinned (OpenSpec.ofChange fnExactLeftCardsSpec)

/-- ITS FALSE NEIGHBOUR: 'it returns false'. Refute it at one input. -/
def fnExactLeftCardsWrong : ChangeSpec := { name := "fnExactLeftCards", fn := fun _ => fun
  | [d1, d2] => { results := [.lit (.bool false)], args := [d1, d2] }
  | _ => none }
def FnExactLeftCardsWrongFalsely : Prop := fnExactLeftCardsRow.holds Try.pinned (OpenSpec.ofChange fnExactLeftCardsWrong)

/-- 'laws.FnExactDeckParting': WHATEVER THE INPUT: true; the input reads as it did. -/
def fnExactDeckPartingSpec : ChangeSpec := { name := "fnExactDeckParting", fn := fun _ => fun
  | [d] => { results := [.lit (.bool true)], args := [d] }
  | _ => none }
def fnExactDeckPartingRow : OpenClaim := { program := "ytnmlggieabjapaa", sum := "5cc465499b842af378ed60961c881571373b6141c5d414ff1b9c71c63866cf3c", func := "loop.example/g01203/laws.FnExactDeckParting", spec := "fnExactDeckParting", unfollowed := true, recurses := true, apart := false }
def FnExactDeckPartingSaid : Prop := fnExactDeckPartingRow.holds Try.pinned (OpenSpec.ofChange fnExactDeckPartingSpec)

/-- ITS FALSE NEIGHBOUR: 'it returns false'. Refute it at one input. -/
def fnExactDeckPartingWrong : ChangeSpec := { name := "fnExactDeckParting", fn := fun _ => fun
  | [d] => { results := [.lit (.bool false)], args := [d] }
  | _ => none }
def FnExactDeckPartingWrongFalsely : Prop := fnExactDeckPartingRow.holds Try.pinned (OpenSpec.ofChange fnExactDeckPartingWrong)

/- THE SECOND FORM. 'bulk': how many values and letters a reading holds, each counted each time it is reached (what is shared counts as often as it is met; a slice's spare places count too). A statement '..UptoSaid' is the law's where the arguments, and the package variables that the reading takes, are together of bulk at most 1048576: NARROWER than '..Said'. Prove '..Said' where nothing that the law and all that it calls make is longer than what came in: it says more and counts as full. Else prove '..UptoSaid'. A law counts once. -/
mutual
def uptoBulk {H : Type} : DataW H → Nat
  | .lit (.string bytes) => bytes.length + 1
  | .lit _ => 1
  | .nil => 1
  | .ptr d => uptoBulk d + 1
  | .slice elems spare => uptoBulkAll elems + uptoBulkAll spare + 1
  | .agg parts => uptoBulkAll parts + 1
  | .iface _ d => uptoBulk d + 1
  | .map entries => uptoBulkEntries entries + 1
  | .held _ => 1
def uptoBulkAll {H : Type} : List (DataW H) → Nat
  | [] => 0
  | d :: r => uptoBulk d + uptoBulkAll r
def uptoBulkEntries {H : Type} : List (Lit × DataW H) → Nat
  | [] => 0
  | x :: r => uptoBulkEntry x + uptoBulkEntries r
def uptoBulkEntry {H : Type} : Lit × DataW H → Nat
  | (.string bytes, d) => bytes.length + uptoBulk d + 1
  | (_, d) => uptoBulk d + 1
 end
def uptoSmall : (H : Type) → List (DataW H) → Bool := fun _ ds => decide (uptoBulkAll ds ≤ 1048576)
def OpenSpec.upto (s : _root_.Go.ChangeSpec) : _root_.Go.OpenSpec := { _root_.Go.OpenSpec.ofChange s with cond := some uptoSmall }

/-- 'laws.FnExactLinesAt', WHERE WHAT IT READS IS OF BULK AT MOST 1048576: true; the input reads as it did. -/
def fnExactLinesAtUptoRow : OpenClaim := { program := "ytnmlggieabjapaa", sum := "5cc465499b842af378ed60961c881571373b6141c5d414ff1b9c71c63866cf3c", func := "loop.example/g01203/laws.FnExactLinesAt", spec := "fnExactLinesAt", unfollowed := true, recurses := true, apart := false, narrowed := true }
def FnExactLinesAtUptoSaid : Prop := fnExactLinesAtUptoRow.holds Try.pinned (OpenSpec.upto fnExactLinesAtSpec)

/-- 'laws.FnExactLineCounts', WHERE WHAT IT READS IS OF BULK AT MOST 1048576: true; the input reads as it did. -/
def fnExactLineCountsUptoRow : OpenClaim := { program := "ytnmlggieabjapaa", sum := "5cc465499b842af378ed60961c881571373b6141c5d414ff1b9c71c63866cf3c", func := "loop.example/g01203/laws.FnExactLineCounts", spec := "fnExactLineCounts", unfollowed := true, recurses := true, apart := false, narrowed := true }
def FnExactLineCountsUptoSaid : Prop := fnExactLineCountsUptoRow.holds Try.pinned (OpenSpec.upto fnExactLineCountsSpec)

/-- 'laws.FnExactOpenPairs', WHERE WHAT IT READS IS OF BULK AT MOST 1048576: true; the input reads as it did. -/
def fnExactOpenPairsUptoRow : OpenClaim := { program := "ytnmlggieabjapaa", sum := "5cc465499b842af378ed60961c881571373b6141c5d414ff1b9c71c63866cf3c", func := "loop.example/g01203/laws.FnExactOpenPairs", spec := "fnExactOpenPairs", unfollowed := true, recurses := true, apart := false, narrowed := true }
def FnExactOpenPairsUptoSaid : Prop := fnExactOpenPairsUptoRow.holds Try.pinned (OpenSpec.upto fnExactOpenPairsSpec)

/-- 'laws.FnExactCountCrossings', WHERE WHAT IT READS IS OF BULK AT MOST 1048576: true; the input reads as it did. -/
def fnExactCountCrossingsUptoRow : OpenClaim := { program := "ytnmlggieabjapaa", sum := "5cc465499b842af378ed60961c881571373b6141c5d414ff1b9c71c63866cf3c", func := "loop.example/g01203/laws.FnExactCountCrossings", spec := "fnExactCountCrossings", unfollowed := true, recurses := true, apart := false, narrowed := true }
def FnExactCountCrossingsUptoSaid : Prop := fnExactCountCrossingsUptoRow.holds Try.pinned (OpenSpec.upto fnExactCountCrossingsSpec)

/-- 'laws.FnExactIsPicking', WHERE WHAT IT READS IS OF BULK AT MOST 1048576: true; the input reads as it did. -/
def fnExactIsPickingUptoRow : OpenClaim := { program := "ytnmlggieabjapaa", sum := "5cc465499b842af378ed60961c881571373b6141c5d414ff1b9c71c63866cf3c", func := "loop.example/g01203/laws.FnExactIsPicking", spec := "fnExactIsPicking", unfollowed := true, recurses := true, apart := false, narrowed := true }
def FnExactIsPickingUptoSaid : Prop := fnExactIsPickingUptoRow.holds Try.pinned (OpenSpec.upto fnExactIsPickingSpec)

/-- 'laws.FnExactMostDisjoint', WHERE WHAT IT READS IS OF BULK AT MOST 1048576: true; the input reads as it did. -/
def fnExactMostDisjointUptoRow : OpenClaim := { program := "ytnmlggieabjapaa", sum := "5cc465499b842af378ed60961c881571373b6141c5d414ff1b9c71c63866cf3c", func := "loop.example/g01203/laws.FnExactMostDisjoint", spec := "fnExactMostDisjoint", unfollowed := true, recurses := true, apart := false, narrowed := true }
def FnExactMostDisjointUptoSaid : Prop := fnExactMostDisjointUptoRow.holds Try.pinned (OpenSpec.upto fnExactMostDisjointSpec)

/-- 'laws.FnExactFirstPicking', WHERE WHAT IT READS IS OF BULK AT MOST 1048576: true; the input reads as it did. -/
def fnExactFirstPickingUptoRow : OpenClaim := { program := "ytnmlggieabjapaa", sum := "5cc465499b842af378ed60961c881571373b6141c5d414ff1b9c71c63866cf3c", func := "loop.example/g01203/laws.FnExactFirstPicking", spec := "fnExactFirstPicking", unfollowed := true, recurses := true, apart := false, narrowed := true }
def FnExactFirstPickingUptoSaid : Prop := fnExactFirstPickingUptoRow.holds Try.pinned (OpenSpec.upto fnExactFirstPickingSpec)

/-- 'laws.FnExactCountPickings', WHERE WHAT IT READS IS OF BULK AT MOST 1048576: true; the input reads as it did. -/
def fnExactCountPickingsUptoRow : OpenClaim := { program := "ytnmlggieabjapaa", sum := "5cc465499b842af378ed60961c881571373b6141c5d414ff1b9c71c63866cf3c", func := "loop.example/g01203/laws.FnExactCountPickings", spec := "fnExactCountPickings", unfollowed := true, recurses := true, apart := false, narrowed := true }
def FnExactCountPickingsUptoSaid : Prop := fnExactCountPickingsUptoRow.holds Try.pinned (OpenSpec.upto fnExactCountPickingsSpec)

/-- 'laws.FnExactCountPartings', WHERE WHAT IT READS IS OF BULK AT MOST 1048576: true; the input reads as it did. -/
def fnExactCountPartingsUptoRow : OpenClaim := { program := "ytnmlggieabjapaa", sum := "5cc465499b842af378ed60961c881571373b6141c5d414ff1b9c71c63866cf3c", func := "loop.example/g01203/laws.FnExactCountPartings", spec := "fnExactCountPartings", unfollowed := true, recurses := true, apart := false, narrowed := true }
def FnExactCountPartingsUptoSaid : Prop := fnExactCountPartingsUptoRow.holds Try.pinned (OpenSpec.upto fnExactCountPartingsSpec)

/-- 'laws.FnExactGreedyPicking', WHERE WHAT IT READS IS OF BULK AT MOST 1048576: true; the input reads as it did. -/
def fnExactGreedyPickingUptoRow : OpenClaim := { program := "ytnmlggieabjapaa", sum := "5cc465499b842af378ed60961c881571373b6141c5d414ff1b9c71c63866cf3c", func := "loop.example/g01203/laws.FnExactGreedyPicking", spec := "fnExactGreedyPicking", unfollowed := true, recurses := true, apart := false, narrowed := true }
def FnExactGreedyPickingUptoSaid : Prop := fnExactGreedyPickingUptoRow.holds Try.pinned (OpenSpec.upto fnExactGreedyPickingSpec)

/-- 'laws.FnExactLeftCards', WHERE WHAT IT READS IS OF BULK AT MOST 1048576: true; the input reads as it did. -/
def fnExactLeftCardsUptoRow : OpenClaim := { program := "ytnmlggieabjapaa", sum := "5cc465499b842af378ed60961c881571373b6141c5d414ff1b9c71c63866cf3c", func := "loop.example/g01203/laws.FnExactLeftCards", spec := "fnExactLeftCards", unfollowed := true, recurses := true, apart := false, narrowed := true }
def FnExactLeftCardsUptoSaid : Prop := fnExactLeftCardsUptoRow.holds Try.pinned (OpenSpec.upto fnExactLeftCardsSpec)

/-- 'laws.FnExactDeckParting', WHERE WHAT IT READS IS OF BULK AT MOST 1048576: true; the input reads as it did. -/
def fnExactDeckPartingUptoRow : OpenClaim := { program := "ytnmlggieabjapaa", sum := "5cc465499b842af378ed60961c881571373b6141c5d414ff1b9c71c63866cf3c", func := "loop.example/g01203/laws.FnExactDeckParting", spec := "fnExactDeckParting", unfollowed := true, recurses := true, apart := false, narrowed := true }
def FnExactDeckPartingUptoSaid : Prop := fnExactDeckPartingUptoRow.holds Try.pinned (OpenSpec.upto fnExactDeckPartingSpec)

end Rows
end Go.Proofs.Ytnmlggieabjapaa
