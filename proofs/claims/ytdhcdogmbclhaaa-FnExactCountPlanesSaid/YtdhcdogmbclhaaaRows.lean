/-
  No cell of these rows narrows 'for every input' (looked for: loops, veiled, ifaces, maps, wideKeys, modest, calm, conditions, laid).
  DERIVED. THE GIVEN ROWS OF THIS SEAT. 12 by the template 'for every input the law returns true; each argument reads behind the call as it read before'; 0 by the template 'total and deterministic' (their statements: YtdhcdogmbclhaaaTotals.lean).
  GIVEN WITH THE SEED: the statements are not yours to turn. If you find one false, say at which input.
  Laid BY PROGRAM, IN A SANDBOX (cutbox-rows.mjs): the forced cells as the released guide's own fill.sh prints them over the translation 4b8aa544a0569f41… (all of the seat's roots in one cut). By AI agents, Wed Nov 11 2026. No macro, syntax, notation, axiom, sorry.
-/
import Derived.Test.YtdhcdogmbclhaaaChecked
import GoSem.Claim
import GoSem.ClaimJoined
import GoSem.ClaimMapViews
import Derived.JoinedTies
import Derived.KernelRfl
namespace Go.Proofs.Ytdhcdogmbclhaaa
/- THE CELL 'sum', in the pinned program and in every row, IS THE sha256 OF THE DUMP (.gsa) THAT YtdhcdogmbclhaaaProg.lean LOADS. Nothing in Lean hashes anything: it is a label: what it is worth is what the hold of that sum in a sandbox is worth. -/
noncomputable def Try.pinned : Pinned := { name := "ytdhcdogmbclhaaa", sum := "4b8aa544a0569f417d5437c0f438051a8ac8b31e1d4410349b0bdc4225d62aba", checked := Try.checked }
namespace Rows
def none {H : Type} : Left H := { results := [], args := [] }

/-- 'laws.FnExactSpanOf': WHATEVER THE INPUT: true; the input reads as it did. -/
def fnExactSpanOfSpec : ChangeSpec := { name := "fnExactSpanOf", fn := fun _ => fun
  | [d] => { results := [.lit (.bool true)], args := [d] }
  | _ => none }
def fnExactSpanOfRow : OpenClaim := { program := "ytdhcdogmbclhaaa", sum := "4b8aa544a0569f417d5437c0f438051a8ac8b31e1d4410349b0bdc4225d62aba", func := "loop.example/g01203/laws.FnExactSpanOf", spec := "fnExactSpanOf", unfollowed := true, recurses := true, plainKeys := false, apart := false }
def FnExactSpanOfSaid : Prop := fnExactSpanOfRow.holds Try.pinned (OpenSpec.ofChange fnExactSpanOfSpec)

/-- ITS FALSE NEIGHBOUR: 'it returns false'. Refute it at one input. -/
def fnExactSpanOfWrong : ChangeSpec := { name := "fnExactSpanOf", fn := fun _ => fun
  | [d] => { results := [.lit (.bool false)], args := [d] }
  | _ => none }
def FnExactSpanOfWrongFalsely : Prop := fnExactSpanOfRow.holds Try.pinned (OpenSpec.ofChange fnExactSpanOfWrong)

/-- 'laws.FnExactDimensionOf': WHATEVER THE INPUT: true; the input reads as it did. -/
def fnExactDimensionOfSpec : ChangeSpec := { name := "fnExactDimensionOf", fn := fun _ => fun
  | [d] => { results := [.lit (.bool true)], args := [d] }
  | _ => none }
def fnExactDimensionOfRow : OpenClaim := { program := "ytdhcdogmbclhaaa", sum := "4b8aa544a0569f417d5437c0f438051a8ac8b31e1d4410349b0bdc4225d62aba", func := "loop.example/g01203/laws.FnExactDimensionOf", spec := "fnExactDimensionOf", unfollowed := true, recurses := true, plainKeys := false, apart := false }
def FnExactDimensionOfSaid : Prop := fnExactDimensionOfRow.holds Try.pinned (OpenSpec.ofChange fnExactDimensionOfSpec)

/-- ITS FALSE NEIGHBOUR: 'it returns false'. Refute it at one input. -/
def fnExactDimensionOfWrong : ChangeSpec := { name := "fnExactDimensionOf", fn := fun _ => fun
  | [d] => { results := [.lit (.bool false)], args := [d] }
  | _ => none }
def FnExactDimensionOfWrongFalsely : Prop := fnExactDimensionOfRow.holds Try.pinned (OpenSpec.ofChange fnExactDimensionOfWrong)

/-- 'laws.FnExactIsFlat': WHATEVER THE INPUT: true; the input reads as it did. -/
def fnExactIsFlatSpec : ChangeSpec := { name := "fnExactIsFlat", fn := fun _ => fun
  | [d] => { results := [.lit (.bool true)], args := [d] }
  | _ => none }
def fnExactIsFlatRow : OpenClaim := { program := "ytdhcdogmbclhaaa", sum := "4b8aa544a0569f417d5437c0f438051a8ac8b31e1d4410349b0bdc4225d62aba", func := "loop.example/g01203/laws.FnExactIsFlat", spec := "fnExactIsFlat", unfollowed := true, recurses := true, plainKeys := false, apart := false }
def FnExactIsFlatSaid : Prop := fnExactIsFlatRow.holds Try.pinned (OpenSpec.ofChange fnExactIsFlatSpec)

/-- ITS FALSE NEIGHBOUR: 'it returns false'. Refute it at one input. -/
def fnExactIsFlatWrong : ChangeSpec := { name := "fnExactIsFlat", fn := fun _ => fun
  | [d] => { results := [.lit (.bool false)], args := [d] }
  | _ => none }
def FnExactIsFlatWrongFalsely : Prop := fnExactIsFlatRow.holds Try.pinned (OpenSpec.ofChange fnExactIsFlatWrong)

/-- 'laws.FnExactPlaneOf': WHATEVER THE INPUT: true; the input reads as it did. -/
def fnExactPlaneOfSpec : ChangeSpec := { name := "fnExactPlaneOf", fn := fun _ => fun
  | [d1, d2, d3] => { results := [.lit (.bool true)], args := [d1, d2, d3] }
  | _ => none }
def fnExactPlaneOfRow : OpenClaim := { program := "ytdhcdogmbclhaaa", sum := "4b8aa544a0569f417d5437c0f438051a8ac8b31e1d4410349b0bdc4225d62aba", func := "loop.example/g01203/laws.FnExactPlaneOf", spec := "fnExactPlaneOf", unfollowed := true, recurses := true, plainKeys := false, apart := false }
def FnExactPlaneOfSaid : Prop := fnExactPlaneOfRow.holds Try.pinned (OpenSpec.ofChange fnExactPlaneOfSpec)

/-- ITS FALSE NEIGHBOUR: 'it returns false'. Refute it at one input. -/
def fnExactPlaneOfWrong : ChangeSpec := { name := "fnExactPlaneOf", fn := fun _ => fun
  | [d1, d2, d3] => { results := [.lit (.bool false)], args := [d1, d2, d3] }
  | _ => none }
def FnExactPlaneOfWrongFalsely : Prop := fnExactPlaneOfRow.holds Try.pinned (OpenSpec.ofChange fnExactPlaneOfWrong)

/-- 'laws.FnExactMagicSquare': WHATEVER THE INPUT: true; the input reads as it did. -/
def fnExactMagicSquareSpec : ChangeSpec := { name := "fnExactMagicSquare", fn := fun _ => fun
  | [d1, d2, d3] => { results := [.lit (.bool true)], args := [d1, d2, d3] }
  | _ => none }
def fnExactMagicSquareRow : OpenClaim := { program := "ytdhcdogmbclhaaa", sum := "4b8aa544a0569f417d5437c0f438051a8ac8b31e1d4410349b0bdc4225d62aba", func := "loop.example/g01203/laws.FnExactMagicSquare", spec := "fnExactMagicSquare", plainKeys := false, apart := false }
def FnExactMagicSquareSaid : Prop := fnExactMagicSquareRow.holds Try.pinned (OpenSpec.ofChange fnExactMagicSquareSpec)

/-- ITS FALSE NEIGHBOUR: 'it returns false'. Refute it at one input. -/
def fnExactMagicSquareWrong : ChangeSpec := { name := "fnExactMagicSquare", fn := fun _ => fun
  | [d1, d2, d3] => { results := [.lit (.bool false)], args := [d1, d2, d3] }
  | _ => none }
def FnExactMagicSquareWrongFalsely : Prop := fnExactMagicSquareRow.holds Try.pinned (OpenSpec.ofChange fnExactMagicSquareWrong)

/-- 'laws.FnExactCountPlanes': WHATEVER THE INPUT: true; the input reads as it did. -/
def fnExactCountPlanesSpec : ChangeSpec := { name := "fnExactCountPlanes", fn := fun _ => fun
  | [d] => { results := [.lit (.bool true)], args := [d] }
  | _ => none }
def fnExactCountPlanesRow : OpenClaim := { program := "ytdhcdogmbclhaaa", sum := "4b8aa544a0569f417d5437c0f438051a8ac8b31e1d4410349b0bdc4225d62aba", func := "loop.example/g01203/laws.FnExactCountPlanes", spec := "fnExactCountPlanes", unfollowed := true, recurses := true, plainKeys := false, apart := false }
def FnExactCountPlanesSaid : Prop := fnExactCountPlanesRow.holds Try.pinned (OpenSpec.ofChange fnExactCountPlanesSpec)

/-- ITS FALSE NEIGHBOUR: 'it returns false'. Refute it at one input. -/
def fnExactCountPlanesWrong : ChangeSpec := { name := "fnExactCountPlanes", fn := fun _ => fun
  | [d] => { results := [.lit (.bool false)], args := [d] }
  | _ => none }
def FnExactCountPlanesWrongFalsely : Prop := fnExactCountPlanesRow.holds Try.pinned (OpenSpec.ofChange fnExactCountPlanesWrong)

/-- 'laws.FnExactCountFlats': WHATEVER THE INPUT: true; the input reads as it did. -/
def fnExactCountFlatsSpec : ChangeSpec := { name := "fnExactCountFlats", fn := fun _ => fun
  | [d] => { results := [.lit (.bool true)], args := [d] }
  | _ => none }
def fnExactCountFlatsRow : OpenClaim := { program := "ytdhcdogmbclhaaa", sum := "4b8aa544a0569f417d5437c0f438051a8ac8b31e1d4410349b0bdc4225d62aba", func := "loop.example/g01203/laws.FnExactCountFlats", spec := "fnExactCountFlats", plainKeys := false, apart := false }
def FnExactCountFlatsSaid : Prop := fnExactCountFlatsRow.holds Try.pinned (OpenSpec.ofChange fnExactCountFlatsSpec)

/-- ITS FALSE NEIGHBOUR: 'it returns false'. Refute it at one input. -/
def fnExactCountFlatsWrong : ChangeSpec := { name := "fnExactCountFlats", fn := fun _ => fun
  | [d] => { results := [.lit (.bool false)], args := [d] }
  | _ => none }
def FnExactCountFlatsWrongFalsely : Prop := fnExactCountFlatsRow.holds Try.pinned (OpenSpec.ofChange fnExactCountFlatsWrong)

/-- 'laws.FnExactIsWeight': WHATEVER THE INPUT: true; the input reads as it did. -/
def fnExactIsWeightSpec : ChangeSpec := { name := "fnExactIsWeight", fn := fun _ => fun
  | [d] => { results := [.lit (.bool true)], args := [d] }
  | _ => none }
def fnExactIsWeightRow : OpenClaim := { program := "ytdhcdogmbclhaaa", sum := "4b8aa544a0569f417d5437c0f438051a8ac8b31e1d4410349b0bdc4225d62aba", func := "loop.example/g01203/laws.FnExactIsWeight", spec := "fnExactIsWeight", plainKeys := false, apart := false }
def FnExactIsWeightSaid : Prop := fnExactIsWeightRow.holds Try.pinned (OpenSpec.ofChange fnExactIsWeightSpec)

/-- ITS FALSE NEIGHBOUR: 'it returns false'. Refute it at one input. -/
def fnExactIsWeightWrong : ChangeSpec := { name := "fnExactIsWeight", fn := fun _ => fun
  | [d] => { results := [.lit (.bool false)], args := [d] }
  | _ => none }
def FnExactIsWeightWrongFalsely : Prop := fnExactIsWeightRow.holds Try.pinned (OpenSpec.ofChange fnExactIsWeightWrong)

/-- 'laws.FnExactValueBy': WHATEVER THE INPUT: true; the input reads as it did. -/
def fnExactValueBySpec : ChangeSpec := { name := "fnExactValueBy", fn := fun _ => fun
  | [d1, d2] => { results := [.lit (.bool true)], args := [d1, d2] }
  | _ => none }
def fnExactValueByRow : OpenClaim := { program := "ytdhcdogmbclhaaa", sum := "4b8aa544a0569f417d5437c0f438051a8ac8b31e1d4410349b0bdc4225d62aba", func := "loop.example/g01203/laws.FnExactValueBy", spec := "fnExactValueBy", plainKeys := false, apart := false }
def FnExactValueBySaid : Prop := fnExactValueByRow.holds Try.pinned (OpenSpec.ofChange fnExactValueBySpec)

/-- ITS FALSE NEIGHBOUR: 'it returns false'. Refute it at one input. -/
def fnExactValueByWrong : ChangeSpec := { name := "fnExactValueBy", fn := fun _ => fun
  | [d1, d2] => { results := [.lit (.bool false)], args := [d1, d2] }
  | _ => none }
def FnExactValueByWrongFalsely : Prop := fnExactValueByRow.holds Try.pinned (OpenSpec.ofChange fnExactValueByWrong)

/-- 'laws.FnExactSplitBy': WHATEVER THE INPUT: true; the input reads as it did. -/
def fnExactSplitBySpec : ChangeSpec := { name := "fnExactSplitBy", fn := fun _ => fun
  | [d1, d2] => { results := [.lit (.bool true)], args := [d1, d2] }
  | _ => none }
def fnExactSplitByRow : OpenClaim := { program := "ytdhcdogmbclhaaa", sum := "4b8aa544a0569f417d5437c0f438051a8ac8b31e1d4410349b0bdc4225d62aba", func := "loop.example/g01203/laws.FnExactSplitBy", spec := "fnExactSplitBy", plainKeys := false, apart := false }
def FnExactSplitBySaid : Prop := fnExactSplitByRow.holds Try.pinned (OpenSpec.ofChange fnExactSplitBySpec)

/-- ITS FALSE NEIGHBOUR: 'it returns false'. Refute it at one input. -/
def fnExactSplitByWrong : ChangeSpec := { name := "fnExactSplitBy", fn := fun _ => fun
  | [d1, d2] => { results := [.lit (.bool false)], args := [d1, d2] }
  | _ => none }
def FnExactSplitByWrongFalsely : Prop := fnExactSplitByRow.holds Try.pinned (OpenSpec.ofChange fnExactSplitByWrong)

/-- 'laws.FnExactMostInSpace': WHATEVER THE INPUT: true; the input reads as it did. -/
def fnExactMostInSpaceSpec : ChangeSpec := { name := "fnExactMostInSpace", fn := fun _ => fun
  | [d] => { results := [.lit (.bool true)], args := [d] }
  | _ => none }
def fnExactMostInSpaceRow : OpenClaim := { program := "ytdhcdogmbclhaaa", sum := "4b8aa544a0569f417d5437c0f438051a8ac8b31e1d4410349b0bdc4225d62aba", func := "loop.example/g01203/laws.FnExactMostInSpace", spec := "fnExactMostInSpace", unfollowed := true, recurses := true, plainKeys := false, apart := false }
def FnExactMostInSpaceSaid : Prop := fnExactMostInSpaceRow.holds Try.pinned (OpenSpec.ofChange fnExactMostInSpaceSpec)

/-- ITS FALSE NEIGHBOUR: 'it returns false'. Refute it at one input. -/
def fnExactMostInSpaceWrong : ChangeSpec := { name := "fnExactMostInSpace", fn := fun _ => fun
  | [d] => { results := [.lit (.bool false)], args := [d] }
  | _ => none }
def FnExactMostInSpaceWrongFalsely : Prop := fnExactMostInSpaceRow.holds Try.pinned (OpenSpec.ofChange fnExactMostInSpaceWrong)

/-- 'laws.FnExactSpacesWith': WHATEVER THE INPUT: true; the input reads as it did. -/
def fnExactSpacesWithSpec : ChangeSpec := { name := "fnExactSpacesWith", fn := fun _ => fun
  | [d] => { results := [.lit (.bool true)], args := [d] }
  | _ => none }
def fnExactSpacesWithRow : OpenClaim := { program := "ytdhcdogmbclhaaa", sum := "4b8aa544a0569f417d5437c0f438051a8ac8b31e1d4410349b0bdc4225d62aba", func := "loop.example/g01203/laws.FnExactSpacesWith", spec := "fnExactSpacesWith", unfollowed := true, recurses := true, plainKeys := false, apart := false }
def FnExactSpacesWithSaid : Prop := fnExactSpacesWithRow.holds Try.pinned (OpenSpec.ofChange fnExactSpacesWithSpec)

/-- ITS FALSE NEIGHBOUR: 'it returns false'. Refute it at one input. -/
def fnExactSpacesWithWrong : ChangeSpec := { name := "fnExactSpacesWith", fn := fun _ => fun
  | [d] => { results := [.lit (.bool false)], args := [d] }
  | _ => none }
def FnExactSpacesWithWrongFalsely : Prop := fnExactSpacesWithRow.holds Try.pinned (OpenSpec.ofChange fnExactSpacesWithWrong)

/- THE SECOND FORM. 'bulk': how many values and letters a reading holds, each counted each time it is reached (what is shared counts as often as it is met; a slice's spare places count too). A statement '..UptoSaid' is the law's where the arguments, and the package variables that the reading takes, are together of bulk at most 1048576: NARROWER than '..Said'. Prove '..Said' where nothing that the law and all that it calls make is longer than what came in: it says more and counts as full. Else prove '..UptoSaid'. A law counts once. -/
mutual
def uptoBulk {H : Type} : DataW H → Nat
  | .lit (.string bytes) => bytes.length + 1
  | .lit _ => 1
  | .nil => 1
  | .ptr d => uptoBulk d + 1
  | .slice elems spare => uptoBulkAll elems + uptoBulkAll spare + 1
  | .agg parts => uptoBulkAll parts + 1
  | .iface _ d => uptoBulk d + 1
  | .map entries => uptoBulkEntries entries + 1
  | .held _ => 1
def uptoBulkAll {H : Type} : List (DataW H) → Nat
  | [] => 0
  | d :: r => uptoBulk d + uptoBulkAll r
def uptoBulkEntries {H : Type} : List (Lit × DataW H) → Nat
  | [] => 0
  | x :: r => uptoBulkEntry x + uptoBulkEntries r
def uptoBulkEntry {H : Type} : Lit × DataW H → Nat
  | (.string bytes, d) => bytes.length + uptoBulk d + 1
  | (_, d) => uptoBulk d + 1
 end
def uptoSmall : (H : Type) → List (DataW H) → Bool := fun _ ds => decide (uptoBulkAll ds ≤ 1048576)
def OpenSpec.upto (s : _root_.Go.ChangeSpec) : _root_.Go.OpenSpec := { _root_.Go.OpenSpec.ofChange s with cond := some uptoSmall }

/-- 'laws.FnExactSpanOf', WHERE WHAT IT READS IS OF BULK AT MOST 1048576: true; the input reads as it did. -/
def fnExactSpanOfUptoRow : OpenClaim := { program := "ytdhcdogmbclhaaa", sum := "4b8aa544a0569f417d5437c0f438051a8ac8b31e1d4410349b0bdc4225d62aba", func := "loop.example/g01203/laws.FnExactSpanOf", spec := "fnExactSpanOf", unfollowed := true, recurses := true, plainKeys := false, apart := false, narrowed := true }
def FnExactSpanOfUptoSaid : Prop := fnExactSpanOfUptoRow.holds Try.pinned (OpenSpec.upto fnExactSpanOfSpec)

/-- 'laws.FnExactDimensionOf', WHERE WHAT IT READS IS OF BULK AT MOST 1048576: true; the input reads as it did. -/
def fnExactDimensionOfUptoRow : OpenClaim := { program := "ytdhcdogmbclhaaa", sum := "4b8aa544a0569f417d5437c0f438051a8ac8b31e1d4410349b0bdc4225d62aba", func := "loop.example/g01203/laws.FnExactDimensionOf", spec := "fnExactDimensionOf", unfollowed := true, recurses := true, plainKeys := false, apart := false, narrowed := true }
def FnExactDimensionOfUptoSaid : Prop := fnExactDimensionOfUptoRow.holds Try.pinned (OpenSpec.upto fnExactDimensionOfSpec)

/-- 'laws.FnExactIsFlat', WHERE WHAT IT READS IS OF BULK AT MOST 1048576: true; the input reads as it did. -/
def fnExactIsFlatUptoRow : OpenClaim := { program := "ytdhcdogmbclhaaa", sum := "4b8aa544a0569f417d5437c0f438051a8ac8b31e1d4410349b0bdc4225d62aba", func := "loop.example/g01203/laws.FnExactIsFlat", spec := "fnExactIsFlat", unfollowed := true, recurses := true, plainKeys := false, apart := false, narrowed := true }
def FnExactIsFlatUptoSaid : Prop := fnExactIsFlatUptoRow.holds Try.pinned (OpenSpec.upto fnExactIsFlatSpec)

/-- 'laws.FnExactPlaneOf', WHERE WHAT IT READS IS OF BULK AT MOST 1048576: true; the input reads as it did. -/
def fnExactPlaneOfUptoRow : OpenClaim := { program := "ytdhcdogmbclhaaa", sum := "4b8aa544a0569f417d5437c0f438051a8ac8b31e1d4410349b0bdc4225d62aba", func := "loop.example/g01203/laws.FnExactPlaneOf", spec := "fnExactPlaneOf", unfollowed := true, recurses := true, plainKeys := false, apart := false, narrowed := true }
def FnExactPlaneOfUptoSaid : Prop := fnExactPlaneOfUptoRow.holds Try.pinned (OpenSpec.upto fnExactPlaneOfSpec)

/-- 'laws.FnExactMagicSquare', WHERE WHAT IT READS IS OF BULK AT MOST 1048576: true; the input reads as it did. -/
def fnExactMagicSquareUptoRow : OpenClaim := { program := "ytdhcdogmbclhaaa", sum := "4b8aa544a0569f417d5437c0f438051a8ac8b31e1d4410349b0bdc4225d62aba", func := "loop.example/g01203/laws.FnExactMagicSquare", spec := "fnExactMagicSquare", plainKeys := false, apart := false, narrowed := true }
def FnExactMagicSquareUptoSaid : Prop := fnExactMagicSquareUptoRow.holds Try.pinned (OpenSpec.upto fnExactMagicSquareSpec)

/-- 'laws.FnExactCountPlanes', WHERE WHAT IT READS IS OF BULK AT MOST 1048576: true; the input reads as it did. -/
def fnExactCountPlanesUptoRow : OpenClaim := { program := "ytdhcdogmbclhaaa", sum := "4b8aa544a0569f417d5437c0f438051a8ac8b31e1d4410349b0bdc4225d62aba", func := "loop.example/g01203/laws.FnExactCountPlanes", spec := "fnExactCountPlanes", unfollowed := true, recurses := true, plainKeys := false, apart := false, narrowed := true }
def FnExactCountPlanesUptoSaid : Prop := fnExactCountPlanesUptoRow.holds Try.pinned (OpenSpec.upto fnExactCountPlanesSpec)

/-- 'laws.FnExactCountFlats', WHERE WHAT IT READS IS OF BULK AT MOST 1048576: true; the input reads as it did. -/
def fnExactCountFlatsUptoRow : OpenClaim := { program := "ytdhcdogmbclhaaa", sum := "4b8aa544a0569f417d5437c0f438051a8ac8b31e1d4410349b0bdc4225d62aba", func := "loop.example/g01203/laws.FnExactCountFlats", spec := "fnExactCountFlats", plainKeys := false, apart := false, narrowed := true }
def FnExactCountFlatsUptoSaid : Prop := fnExactCountFlatsUptoRow.holds Try.pinned (OpenSpec.upto fnExactCountFlatsSpec)

/-- 'laws.FnExactIsWeight', WHERE WHAT IT READS IS OF BULK AT MOST 1048576: true; the input reads as it did. -/
def fnExactIsWeightUptoRow : OpenClaim := { program := "ytdhcdogmbclhaaa", sum := "4b8aa544a0569f417d5437c0f438051a8ac8b31e1d4410349b0bdc4225d62aba", func := "loop.example/g01203/laws.FnExactIsWeight", spec := "fnExactIsWeight", plainKeys := false, apart := false, narrowed := true }
def FnExactIsWeightUptoSaid : Prop := fnExactIsWeightUptoRow.holds Try.pinned (OpenSpec.upto fnExactIsWeightSpec)

/-- 'laws.FnExactValueBy', WHERE WHAT IT READS IS OF BULK AT MOST 1048576: true; the input reads as it did. -/
def fnExactValueByUptoRow : OpenClaim := { program := "ytdhcdogmbclhaaa", sum := "4b8aa544a0569f417d5437c0f438051a8ac8b31e1d4410349b0bdc4225d62aba", func := "loop.example/g01203/laws.FnExactValueBy", spec := "fnExactValueBy", plainKeys := false, apart := false, narrowed := true }
def FnExactValueByUptoSaid : Prop := fnExactValueByUptoRow.holds Try.pinned (OpenSpec.upto fnExactValueBySpec)

/-- 'laws.FnExactSplitBy', WHERE WHAT IT READS IS OF BULK AT MOST 1048576: true; the input reads as it did. -/
def fnExactSplitByUptoRow : OpenClaim := { program := "ytdhcdogmbclhaaa", sum := "4b8aa544a0569f417d5437c0f438051a8ac8b31e1d4410349b0bdc4225d62aba", func := "loop.example/g01203/laws.FnExactSplitBy", spec := "fnExactSplitBy", plainKeys := false, apart := false, narrowed := true }
def FnExactSplitByUptoSaid : Prop := fnExactSplitByUptoRow.holds Try.pinned (OpenSpec.upto fnExactSplitBySpec)

/-- 'laws.FnExactMostInSpace', WHERE WHAT IT READS IS OF BULK AT MOST 1048576: true; the input reads as it did. -/
def fnExactMostInSpaceUptoRow : OpenClaim := { program := "ytdhcdogmbclhaaa", sum := "4b8aa544a0569f417d5437c0f438051a8ac8b31e1d4410349b0bdc4225d62aba", func := "loop.example/g01203/laws.FnExactMostInSpace", spec := "fnExactMostInSpace", unfollowed := true, recurses := true, plainKeys := false, apart := false, narrowed := true }
def FnExactMostInSpaceUptoSaid : Prop := fnExactMostInSpaceUptoRow.holds Try.pinned (OpenSpec.upto fnExactMostInSpaceSpec)

/-- 'laws.FnExactSpacesWith', WHERE WHAT IT READS IS OF BULK AT MOST 1048576: true; the input reads as it did. -/
def fnExactSpacesWithUptoRow : OpenClaim := { program := "ytdhcdogmbclhaaa", sum := "4b8aa544a0569f417d5437c0f438051a8ac8b31e1d4410349b0bdc4225d62aba", func := "loop.example/g01203/laws.FnExactSpacesWith", spec := "fnExactSpacesWith", unfollowed := true, recurses := true, plainKeys := false, apart := false, narrowed := true }
def FnExactSpacesWithUptoSaid : Prop := fnExactSpacesWithUptoRow.holds Try.pinned (OpenSpec.upto fnExactSpacesWithSpec)

end Rows
end Go.Proofs.Ytdhcdogmbclhaaa
