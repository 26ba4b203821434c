/-
  No cell of these rows narrows 'for every input' (looked for: loops, veiled, ifaces, maps, wideKeys, modest, calm, conditions, laid).
  DERIVED. THE GIVEN ROWS OF THIS SEAT. 11 by the template 'for every input the law returns true; each argument reads behind the call as it read before'; 0 by the template 'total and deterministic' (their statements: YtjmlefcmhjodeaaTotals.lean).
  GIVEN WITH THE SEED: the statements are not yours to turn. If you find one false, say at which input.
  Laid BY PROGRAM, IN A SANDBOX (cutbox-rows.mjs): the forced cells as the released guide's own fill.sh prints them over the translation 2e0155e570fa0b92… (all of the seat's roots in one cut). By AI agents, Wed Nov 11 2026. No macro, syntax, notation, axiom, sorry.
-/
import Derived.Test.YtjmlefcmhjodeaaChecked
import GoSem.Claim
import GoSem.ClaimJoined
import GoSem.ClaimMapViews
import Derived.JoinedTies
import Derived.KernelRfl
namespace Go.Proofs.Ytjmlefcmhjodeaa
/- THE CELL 'sum', in the pinned program and in every row, IS THE sha256 OF THE DUMP (.gsa) THAT YtjmlefcmhjodeaaProg.lean LOADS. Nothing in Lean hashes anything: it is a label: what it is worth is what the hold of that sum in a sandbox is worth. -/
noncomputable def Try.pinned : Pinned := { name := "ytjmlefcmhjodeaa", sum := "2e0155e570fa0b921b0cdec0744b2a18cbc1c8eea19c5c5af46812c0be27f1fd", checked := Try.checked }
namespace Rows
def none {H : Type} : Left H := { results := [], args := [] }

/-- 'laws.FnExactAllOfKind': WHATEVER THE INPUT: true; the input reads as it did. -/
def fnExactAllOfKindSpec : ChangeSpec := { name := "fnExactAllOfKind", fn := fun _ => fun
  | [d] => { results := [.lit (.bool true)], args := [d] }
  | _ => none }
def fnExactAllOfKindRow : OpenClaim := { program := "ytjmlefcmhjodeaa", sum := "2e0155e570fa0b921b0cdec0744b2a18cbc1c8eea19c5c5af46812c0be27f1fd", func := "loop.example/g01203/laws.FnExactAllOfKind", spec := "fnExactAllOfKind", plainKeys := false, apart := false }
def FnExactAllOfKindSaid : Prop := fnExactAllOfKindRow.holds Try.pinned (OpenSpec.ofChange fnExactAllOfKindSpec)

/-- ITS FALSE NEIGHBOUR: 'it returns false'. Refute it at one input. -/
def fnExactAllOfKindWrong : ChangeSpec := { name := "fnExactAllOfKind", fn := fun _ => fun
  | [d] => { results := [.lit (.bool false)], args := [d] }
  | _ => none }
def FnExactAllOfKindWrongFalsely : Prop := fnExactAllOfKindRow.holds Try.pinned (OpenSpec.ofChange fnExactAllOfKindWrong)

/-- 'laws.FnExactMiddlesOf': WHATEVER THE INPUT: true; the input reads as it did. -/
def fnExactMiddlesOfSpec : ChangeSpec := { name := "fnExactMiddlesOf", fn := fun _ => fun
  | [d1, d2, d3, d4] => { results := [.lit (.bool true)], args := [d1, d2, d3, d4] }
  | _ => none }
def fnExactMiddlesOfRow : OpenClaim := { program := "ytjmlefcmhjodeaa", sum := "2e0155e570fa0b921b0cdec0744b2a18cbc1c8eea19c5c5af46812c0be27f1fd", func := "loop.example/g01203/laws.FnExactMiddlesOf", spec := "fnExactMiddlesOf", plainKeys := false, apart := false }
def FnExactMiddlesOfSaid : Prop := fnExactMiddlesOfRow.holds Try.pinned (OpenSpec.ofChange fnExactMiddlesOfSpec)

/-- ITS FALSE NEIGHBOUR: 'it returns false'. Refute it at one input. -/
def fnExactMiddlesOfWrong : ChangeSpec := { name := "fnExactMiddlesOf", fn := fun _ => fun
  | [d1, d2, d3, d4] => { results := [.lit (.bool false)], args := [d1, d2, d3, d4] }
  | _ => none }
def FnExactMiddlesOfWrongFalsely : Prop := fnExactMiddlesOfRow.holds Try.pinned (OpenSpec.ofChange fnExactMiddlesOfWrong)

/-- 'laws.FnExactSumGhost': WHATEVER THE INPUT: true; the input reads as it did. -/
def fnExactSumGhostSpec : ChangeSpec := { name := "fnExactSumGhost", fn := fun _ => fun
  | [d] => { results := [.lit (.bool true)], args := [d] }
  | _ => none }
def fnExactSumGhostRow : OpenClaim := { program := "ytjmlefcmhjodeaa", sum := "2e0155e570fa0b921b0cdec0744b2a18cbc1c8eea19c5c5af46812c0be27f1fd", func := "loop.example/g01203/laws.FnExactSumGhost", spec := "fnExactSumGhost", plainKeys := false, apart := false }
def FnExactSumGhostSaid : Prop := fnExactSumGhostRow.holds Try.pinned (OpenSpec.ofChange fnExactSumGhostSpec)

/-- ITS FALSE NEIGHBOUR: 'it returns false'. Refute it at one input. -/
def fnExactSumGhostWrong : ChangeSpec := { name := "fnExactSumGhost", fn := fun _ => fun
  | [d] => { results := [.lit (.bool false)], args := [d] }
  | _ => none }
def FnExactSumGhostWrongFalsely : Prop := fnExactSumGhostRow.holds Try.pinned (OpenSpec.ofChange fnExactSumGhostWrong)

/-- 'laws.FnExactCountKinds': WHATEVER THE INPUT: true; the input reads as it did. -/
def fnExactCountKindsSpec : ChangeSpec := { name := "fnExactCountKinds", fn := fun _ => fun
  | [d] => { results := [.lit (.bool true)], args := [d] }
  | _ => none }
def fnExactCountKindsRow : OpenClaim := { program := "ytjmlefcmhjodeaa", sum := "2e0155e570fa0b921b0cdec0744b2a18cbc1c8eea19c5c5af46812c0be27f1fd", func := "loop.example/g01203/laws.FnExactCountKinds", spec := "fnExactCountKinds", unfollowed := true, recurses := true, plainKeys := false, apart := false }
def FnExactCountKindsSaid : Prop := fnExactCountKindsRow.holds Try.pinned (OpenSpec.ofChange fnExactCountKindsSpec)

/-- ITS FALSE NEIGHBOUR: 'it returns false'. Refute it at one input. -/
def fnExactCountKindsWrong : ChangeSpec := { name := "fnExactCountKinds", fn := fun _ => fun
  | [d] => { results := [.lit (.bool false)], args := [d] }
  | _ => none }
def FnExactCountKindsWrongFalsely : Prop := fnExactCountKindsRow.holds Try.pinned (OpenSpec.ofChange fnExactCountKindsWrong)

/-- 'laws.FnExactLinesOfKind': WHATEVER THE INPUT: true; the input reads as it did. -/
def fnExactLinesOfKindSpec : ChangeSpec := { name := "fnExactLinesOfKind", fn := fun _ => fun
  | [d1, d2] => { results := [.lit (.bool true)], args := [d1, d2] }
  | _ => none }
def fnExactLinesOfKindRow : OpenClaim := { program := "ytjmlefcmhjodeaa", sum := "2e0155e570fa0b921b0cdec0744b2a18cbc1c8eea19c5c5af46812c0be27f1fd", func := "loop.example/g01203/laws.FnExactLinesOfKind", spec := "fnExactLinesOfKind", unfollowed := true, recurses := true, plainKeys := false, apart := false }
def FnExactLinesOfKindSaid : Prop := fnExactLinesOfKindRow.holds Try.pinned (OpenSpec.ofChange fnExactLinesOfKindSpec)

/-- ITS FALSE NEIGHBOUR: 'it returns false'. Refute it at one input. -/
def fnExactLinesOfKindWrong : ChangeSpec := { name := "fnExactLinesOfKind", fn := fun _ => fun
  | [d1, d2] => { results := [.lit (.bool false)], args := [d1, d2] }
  | _ => none }
def FnExactLinesOfKindWrongFalsely : Prop := fnExactLinesOfKindRow.holds Try.pinned (OpenSpec.ofChange fnExactLinesOfKindWrong)

/-- 'laws.FnExactHasQuad': WHATEVER THE INPUT: true; the input reads as it did. -/
def fnExactHasQuadSpec : ChangeSpec := { name := "fnExactHasQuad", fn := fun _ => fun
  | [d] => { results := [.lit (.bool true)], args := [d] }
  | _ => none }
def fnExactHasQuadRow : OpenClaim := { program := "ytjmlefcmhjodeaa", sum := "2e0155e570fa0b921b0cdec0744b2a18cbc1c8eea19c5c5af46812c0be27f1fd", func := "loop.example/g01203/laws.FnExactHasQuad", spec := "fnExactHasQuad", plainKeys := false, apart := false }
def FnExactHasQuadSaid : Prop := fnExactHasQuadRow.holds Try.pinned (OpenSpec.ofChange fnExactHasQuadSpec)

/-- ITS FALSE NEIGHBOUR: 'it returns false'. Refute it at one input. -/
def fnExactHasQuadWrong : ChangeSpec := { name := "fnExactHasQuad", fn := fun _ => fun
  | [d] => { results := [.lit (.bool false)], args := [d] }
  | _ => none }
def FnExactHasQuadWrongFalsely : Prop := fnExactHasQuadRow.holds Try.pinned (OpenSpec.ofChange fnExactHasQuadWrong)

/-- 'laws.FnExactSharedMiddle': WHATEVER THE INPUT: true; the input reads as it did. -/
def fnExactSharedMiddleSpec : ChangeSpec := { name := "fnExactSharedMiddle", fn := fun _ => fun
  | [d] => { results := [.lit (.bool true)], args := [d] }
  | _ => none }
def fnExactSharedMiddleRow : OpenClaim := { program := "ytjmlefcmhjodeaa", sum := "2e0155e570fa0b921b0cdec0744b2a18cbc1c8eea19c5c5af46812c0be27f1fd", func := "loop.example/g01203/laws.FnExactSharedMiddle", spec := "fnExactSharedMiddle", plainKeys := false, apart := false }
def FnExactSharedMiddleSaid : Prop := fnExactSharedMiddleRow.holds Try.pinned (OpenSpec.ofChange fnExactSharedMiddleSpec)

/-- ITS FALSE NEIGHBOUR: 'it returns false'. Refute it at one input. -/
def fnExactSharedMiddleWrong : ChangeSpec := { name := "fnExactSharedMiddle", fn := fun _ => fun
  | [d] => { results := [.lit (.bool false)], args := [d] }
  | _ => none }
def FnExactSharedMiddleWrongFalsely : Prop := fnExactSharedMiddleRow.holds Try.pinned (OpenSpec.ofChange fnExactSharedMiddleWrong)

/-- 'laws.FnExactNearLines': WHATEVER THE INPUT: true; the input reads as it did. -/
def fnExactNearLinesSpec : ChangeSpec := { name := "fnExactNearLines", fn := fun _ => fun
  | [d] => { results := [.lit (.bool true)], args := [d] }
  | _ => none }
def fnExactNearLinesRow : OpenClaim := { program := "ytjmlefcmhjodeaa", sum := "2e0155e570fa0b921b0cdec0744b2a18cbc1c8eea19c5c5af46812c0be27f1fd", func := "loop.example/g01203/laws.FnExactNearLines", spec := "fnExactNearLines", unfollowed := true, recurses := true, plainKeys := false, apart := false }
def FnExactNearLinesSaid : Prop := fnExactNearLinesRow.holds Try.pinned (OpenSpec.ofChange fnExactNearLinesSpec)

/-- ITS FALSE NEIGHBOUR: 'it returns false'. Refute it at one input. -/
def fnExactNearLinesWrong : ChangeSpec := { name := "fnExactNearLines", fn := fun _ => fun
  | [d] => { results := [.lit (.bool false)], args := [d] }
  | _ => none }
def FnExactNearLinesWrongFalsely : Prop := fnExactNearLinesRow.holds Try.pinned (OpenSpec.ofChange fnExactNearLinesWrong)

/-- 'laws.FnExactQuadsIn': WHATEVER THE INPUT: true; the input reads as it did. -/
def fnExactQuadsInSpec : ChangeSpec := { name := "fnExactQuadsIn", fn := fun _ => fun
  | [d] => { results := [.lit (.bool true)], args := [d] }
  | _ => none }
def fnExactQuadsInRow : OpenClaim := { program := "ytjmlefcmhjodeaa", sum := "2e0155e570fa0b921b0cdec0744b2a18cbc1c8eea19c5c5af46812c0be27f1fd", func := "loop.example/g01203/laws.FnExactQuadsIn", spec := "fnExactQuadsIn", unfollowed := true, recurses := true, plainKeys := false, apart := false }
def FnExactQuadsInSaid : Prop := fnExactQuadsInRow.holds Try.pinned (OpenSpec.ofChange fnExactQuadsInSpec)

/-- ITS FALSE NEIGHBOUR: 'it returns false'. Refute it at one input. -/
def fnExactQuadsInWrong : ChangeSpec := { name := "fnExactQuadsIn", fn := fun _ => fun
  | [d] => { results := [.lit (.bool false)], args := [d] }
  | _ => none }
def FnExactQuadsInWrongFalsely : Prop := fnExactQuadsInRow.holds Try.pinned (OpenSpec.ofChange fnExactQuadsInWrong)

/-- 'laws.FnExactIsGhost': WHATEVER THE INPUT: true; the input reads as it did. -/
def fnExactIsGhostSpec : ChangeSpec := { name := "fnExactIsGhost", fn := fun _ => fun
  | [d] => { results := [.lit (.bool true)], args := [d] }
  | _ => none }
def fnExactIsGhostRow : OpenClaim := { program := "ytjmlefcmhjodeaa", sum := "2e0155e570fa0b921b0cdec0744b2a18cbc1c8eea19c5c5af46812c0be27f1fd", func := "loop.example/g01203/laws.FnExactIsGhost", spec := "fnExactIsGhost", unfollowed := true, recurses := true, plainKeys := false, apart := false }
def FnExactIsGhostSaid : Prop := fnExactIsGhostRow.holds Try.pinned (OpenSpec.ofChange fnExactIsGhostSpec)

/-- ITS FALSE NEIGHBOUR: 'it returns false'. Refute it at one input. -/
def fnExactIsGhostWrong : ChangeSpec := { name := "fnExactIsGhost", fn := fun _ => fun
  | [d] => { results := [.lit (.bool false)], args := [d] }
  | _ => none }
def FnExactIsGhostWrongFalsely : Prop := fnExactIsGhostRow.holds Try.pinned (OpenSpec.ofChange fnExactIsGhostWrong)

/-- 'laws.FnExactGhostsIn': WHATEVER THE INPUT: true; the input reads as it did. -/
def fnExactGhostsInSpec : ChangeSpec := { name := "fnExactGhostsIn", fn := fun _ => fun
  | [d] => { results := [.lit (.bool true)], args := [d] }
  | _ => none }
def fnExactGhostsInRow : OpenClaim := { program := "ytjmlefcmhjodeaa", sum := "2e0155e570fa0b921b0cdec0744b2a18cbc1c8eea19c5c5af46812c0be27f1fd", func := "loop.example/g01203/laws.FnExactGhostsIn", spec := "fnExactGhostsIn", unfollowed := true, recurses := true, plainKeys := false, apart := false }
def FnExactGhostsInSaid : Prop := fnExactGhostsInRow.holds Try.pinned (OpenSpec.ofChange fnExactGhostsInSpec)

/-- ITS FALSE NEIGHBOUR: 'it returns false'. Refute it at one input. -/
def fnExactGhostsInWrong : ChangeSpec := { name := "fnExactGhostsIn", fn := fun _ => fun
  | [d] => { results := [.lit (.bool false)], args := [d] }
  | _ => none }
def FnExactGhostsInWrongFalsely : Prop := fnExactGhostsInRow.holds Try.pinned (OpenSpec.ofChange fnExactGhostsInWrong)

/- THE SECOND FORM. 'bulk': how many values and letters a reading holds, each counted each time it is reached (what is shared counts as often as it is met; a slice's spare places count too). A statement '..UptoSaid' is the law's where the arguments, and the package variables that the reading takes, are together of bulk at most 1048576: NARROWER than '..Said'. Prove '..Said' where nothing that the law and all that it calls make is longer than what came in: it says more and counts as full. Else prove '..UptoSaid'. A law counts once. -/
mutual
def uptoBulk {H : Type} : DataW H → Nat
  | .lit (.string bytes) => bytes.length + 1
  | .lit _ => 1
  | .nil => 1
  | .ptr d => uptoBulk d + 1
  | .slice elems spare => uptoBulkAll elems + uptoBulkAll spare + 1
  | .agg parts => uptoBulkAll parts + 1
  | .iface _ d => uptoBulk d + 1
  | .map entries => uptoBulkEntries entries + 1
  | .held _ => 1
def uptoBulkAll {H : Type} : List (DataW H) → Nat
  | [] => 0
  | d :: r => uptoBulk d + uptoBulkAll r
def uptoBulkEntries {H : Type} : List (Lit × DataW H) → Nat
  | [] => 0
  | x :: r => uptoBulkEntry x + uptoBulkEntries r
def uptoBulkEntry {H : Type} : Lit × DataW H → Nat
  | (.string bytes, d) => bytes.length + uptoBulk d + 1
  | (_, d) => uptoBulk d + 1
 end
def uptoSmall : (H : Type) → List (DataW H) → Bool := fun _ ds => decide (uptoBulkAll ds ≤ 1048576)
def OpenSpec.upto (s : _root_.Go.ChangeSpec) : _root_.Go.OpenSpec := { _root_.Go.OpenSpec.ofChange s with cond := some uptoSmall }

/-- 'laws.FnExactAllOfKind', WHERE WHAT IT READS IS OF BULK AT MOST 1048576: true; the input reads as it did. -/
def fnExactAllOfKindUptoRow : OpenClaim := { program := "ytjmlefcmhjodeaa", sum := "2e0155e570fa0b921b0cdec0744b2a18cbc1c8eea19c5c5af46812c0be27f1fd", func := "loop.example/g01203/laws.FnExactAllOfKind", spec := "fnExactAllOfKind", plainKeys := false, apart := false, narrowed := true }
def FnExactAllOfKindUptoSaid : Prop := fnExactAllOfKindUptoRow.holds Try.pinned (OpenSpec.upto fnExactAllOfKindSpec)

/-- 'laws.FnExactMiddlesOf', WHERE WHAT IT READS IS OF BULK AT MOST 1048576: true; the input reads as it did. -/
def fnExactMiddlesOfUptoRow : OpenClaim := { program := "ytjmlefcmhjodeaa", sum := "2e0155e570fa0b921b0cdec0744b2a18cbc1c8eea19c5c5af46812c0be27f1fd", func := "loop.example/g01203/laws.FnExactMiddlesOf", spec := "fnExactMiddlesOf", plainKeys := false, apart := false, narrowed := true }
def FnExactMiddlesOfUptoSaid : Prop := fnExactMiddlesOfUptoRow.holds Try.pinned (OpenSpec.upto fnExactMiddlesOfSpec)

/-- 'laws.FnExactSumGhost', WHERE WHAT IT READS IS OF BULK AT MOST 1048576: true; the input reads as it did. -/
def fnExactSumGhostUptoRow : OpenClaim := { program := "ytjmlefcmhjodeaa", sum := "2e0155e570fa0b921b0cdec0744b2a18cbc1c8eea19c5c5af46812c0be27f1fd", func := "loop.example/g01203/laws.FnExactSumGhost", spec := "fnExactSumGhost", plainKeys := false, apart := false, narrowed := true }
def FnExactSumGhostUptoSaid : Prop := fnExactSumGhostUptoRow.holds Try.pinned (OpenSpec.upto fnExactSumGhostSpec)

/-- 'laws.FnExactCountKinds', WHERE WHAT IT READS IS OF BULK AT MOST 1048576: true; the input reads as it did. -/
def fnExactCountKindsUptoRow : OpenClaim := { program := "ytjmlefcmhjodeaa", sum := "2e0155e570fa0b921b0cdec0744b2a18cbc1c8eea19c5c5af46812c0be27f1fd", func := "loop.example/g01203/laws.FnExactCountKinds", spec := "fnExactCountKinds", unfollowed := true, recurses := true, plainKeys := false, apart := false, narrowed := true }
def FnExactCountKindsUptoSaid : Prop := fnExactCountKindsUptoRow.holds Try.pinned (OpenSpec.upto fnExactCountKindsSpec)

/-- 'laws.FnExactLinesOfKind', WHERE WHAT IT READS IS OF BULK AT MOST 1048576: true; the input reads as it did. -/
def fnExactLinesOfKindUptoRow : OpenClaim := { program := "ytjmlefcmhjodeaa", sum := "2e0155e570fa0b921b0cdec0744b2a18cbc1c8eea19c5c5af46812c0be27f1fd", func := "loop.example/g01203/laws.FnExactLinesOfKind", spec := "fnExactLinesOfKind", unfollowed := true, recurses := true, plainKeys := false, apart := false, narrowed := true }
def FnExactLinesOfKindUptoSaid : Prop := fnExactLinesOfKindUptoRow.holds Try.pinned (OpenSpec.upto fnExactLinesOfKindSpec)

/-- 'laws.FnExactHasQuad', WHERE WHAT IT READS IS OF BULK AT MOST 1048576: true; the input reads as it did. -/
def fnExactHasQuadUptoRow : OpenClaim := { program := "ytjmlefcmhjodeaa", sum := "2e0155e570fa0b921b0cdec0744b2a18cbc1c8eea19c5c5af46812c0be27f1fd", func := "loop.example/g01203/laws.FnExactHasQuad", spec := "fnExactHasQuad", plainKeys := false, apart := false, narrowed := true }
def FnExactHasQuadUptoSaid : Prop := fnExactHasQuadUptoRow.holds Try.pinned (OpenSpec.upto fnExactHasQuadSpec)

/-- 'laws.FnExactSharedMiddle', WHERE WHAT IT READS IS OF BULK AT MOST 1048576: true; the input reads as it did. -/
def fnExactSharedMiddleUptoRow : OpenClaim := { program := "ytjmlefcmhjodeaa", sum := "2e0155e570fa0b921b0cdec0744b2a18cbc1c8eea19c5c5af46812c0be27f1fd", func := "loop.example/g01203/laws.FnExactSharedMiddle", spec := "fnExactSharedMiddle", plainKeys := false, apart := false, narrowed := true }
def FnExactSharedMiddleUptoSaid : Prop := fnExactSharedMiddleUptoRow.holds Try.pinned (OpenSpec.upto fnExactSharedMiddleSpec)

/-- 'laws.FnExactNearLines', WHERE WHAT IT READS IS OF BULK AT MOST 1048576: true; the input reads as it did. -/
def fnExactNearLinesUptoRow : OpenClaim := { program := "ytjmlefcmhjodeaa", sum := "2e0155e570fa0b921b0cdec0744b2a18cbc1c8eea19c5c5af46812c0be27f1fd", func := "loop.example/g01203/laws.FnExactNearLines", spec := "fnExactNearLines", unfollowed := true, recurses := true, plainKeys := false, apart := false, narrowed := true }
def FnExactNearLinesUptoSaid : Prop := fnExactNearLinesUptoRow.holds Try.pinned (OpenSpec.upto fnExactNearLinesSpec)

/-- 'laws.FnExactQuadsIn', WHERE WHAT IT READS IS OF BULK AT MOST 1048576: true; the input reads as it did. -/
def fnExactQuadsInUptoRow : OpenClaim := { program := "ytjmlefcmhjodeaa", sum := "2e0155e570fa0b921b0cdec0744b2a18cbc1c8eea19c5c5af46812c0be27f1fd", func := "loop.example/g01203/laws.FnExactQuadsIn", spec := "fnExactQuadsIn", unfollowed := true, recurses := true, plainKeys := false, apart := false, narrowed := true }
def FnExactQuadsInUptoSaid : Prop := fnExactQuadsInUptoRow.holds Try.pinned (OpenSpec.upto fnExactQuadsInSpec)

/-- 'laws.FnExactIsGhost', WHERE WHAT IT READS IS OF BULK AT MOST 1048576: true; the input reads as it did. -/
def fnExactIsGhostUptoRow : OpenClaim := { program := "ytjmlefcmhjodeaa", sum := "2e0155e570fa0b921b0cdec0744b2a18cbc1c8eea19c5c5af46812c0be27f1fd", func := "loop.example/g01203/laws.FnExactIsGhost", spec := "fnExactIsGhost", unfollowed := true, recurses := true, plainKeys := false, apart := false, narrowed := true }
def FnExactIsGhostUptoSaid : Prop := fnExactIsGhostUptoRow.holds Try.pinned (OpenSpec.upto fnExactIsGhostSpec)

/-- 'laws.FnExactGhostsIn', WHERE WHAT IT READS IS OF BULK AT MOST 1048576: true; the input reads as it did. -/
def fnExactGhostsInUptoRow : OpenClaim := { program := "ytjmlefcmhjodeaa", sum := "2e0155e570fa0b921b0cdec0744b2a18cbc1c8eea19c5c5af46812c0be27f1fd", func := "loop.example/g01203/laws.FnExactGhostsIn", spec := "fnExactGhostsIn", unfollowed := true, recurses := true, plainKeys := false, apart := false, narrowed := true }
def FnExactGhostsInUptoSaid : Prop := fnExactGhostsInUptoRow.holds Try.pinned (OpenSpec.upto fnExactGhostsInSpec)

end Rows
end Go.Proofs.Ytjmlefcmhjodeaa
