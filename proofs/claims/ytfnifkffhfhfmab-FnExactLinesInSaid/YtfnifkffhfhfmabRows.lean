/-
  No cell of these rows narrows 'for every input' (looked for: loops, veiled, ifaces, maps, wideKeys, modest, calm, conditions, laid).
  DERIVED. THE GIVEN ROWS OF THIS SEAT. 11 by the template 'for every input the law returns true; each argument reads behind the call as it read before'; 0 by the template 'total and deterministic' (their statements: YtfnifkffhfhfmabTotals.lean).
  GIVEN WITH THE SEED: the statements are not yours to turn. If you find one false, say at which input.
  Laid BY PROGRAM, IN A SANDBOX (cutbox-rows.mjs): the forced cells as the released guide's own fill.sh prints them over the translation 6522ce413c1c37c7… (all of the seat's roots in one cut). By AI agents, Wed Nov 11 2026. No macro, syntax, notation, axiom, sorry.
-/
import Derived.Test.YtfnifkffhfhfmabChecked
import GoSem.Claim
import GoSem.ClaimJoined
import GoSem.ClaimMapViews
import Derived.JoinedTies
import Derived.KernelRfl
namespace Go.Proofs.Ytfnifkffhfhfmab
/- THE CELL 'sum', in the pinned program and in every row, IS THE sha256 OF THE DUMP (.gsa) THAT YtfnifkffhfhfmabProg.lean LOADS. Nothing in Lean hashes anything: it is a label: what it is worth is what the hold of that sum in a sandbox is worth. -/
noncomputable def Try.pinned : Pinned := { name := "ytfnifkffhfhfmab", sum := "6522ce413c1c37c7ffeb13c35c684e941835f3a13e23e5f562946afdaa5c4a83", checked := Try.checked }
namespace Rows
def none {H : Type} : Left H := { results := [], args := [] }

/-- 'laws.FnExactIsHand': WHATEVER THE INPUT: true; the input reads as it did. -/
def fnExactIsHandSpec : ChangeSpec := { name := "fnExactIsHand", fn := fun _ => fun
  | [d] => { results := [.lit (.bool true)], args := [d] }
  | _ => none }
def fnExactIsHandRow : OpenClaim := { program := "ytfnifkffhfhfmab", sum := "6522ce413c1c37c7ffeb13c35c684e941835f3a13e23e5f562946afdaa5c4a83", func := "loop.example/g01203/laws.FnExactIsHand", spec := "fnExactIsHand", apart := false }
def FnExactIsHandSaid : Prop := fnExactIsHandRow.holds Try.pinned (OpenSpec.ofChange fnExactIsHandSpec)

/-- ITS FALSE NEIGHBOUR: 'it returns false'. Refute it at one input. -/
def fnExactIsHandWrong : ChangeSpec := { name := "fnExactIsHand", fn := fun _ => fun
  | [d] => { results := [.lit (.bool false)], args := [d] }
  | _ => none }
def FnExactIsHandWrongFalsely : Prop := fnExactIsHandRow.holds Try.pinned (OpenSpec.ofChange fnExactIsHandWrong)

/-- 'laws.FnExactLinesIn': WHATEVER THE INPUT: true; the input reads as it did. -/
def fnExactLinesInSpec : ChangeSpec := { name := "fnExactLinesIn", fn := fun _ => fun
  | [d] => { results := [.lit (.bool true)], args := [d] }
  | _ => none }
def fnExactLinesInRow : OpenClaim := { program := "ytfnifkffhfhfmab", sum := "6522ce413c1c37c7ffeb13c35c684e941835f3a13e23e5f562946afdaa5c4a83", func := "loop.example/g01203/laws.FnExactLinesIn", spec := "fnExactLinesIn", unfollowed := true, recurses := true, apart := false }
def FnExactLinesInSaid : Prop := fnExactLinesInRow.holds Try.pinned (OpenSpec.ofChange fnExactLinesInSpec)

/-- ITS FALSE NEIGHBOUR: 'it returns false'. Refute it at one input. -/
def fnExactLinesInWrong : ChangeSpec := { name := "fnExactLinesIn", fn := fun _ => fun
  | [d] => { results := [.lit (.bool false)], args := [d] }
  | _ => none }
def FnExactLinesInWrongFalsely : Prop := fnExactLinesInRow.holds Try.pinned (OpenSpec.ofChange fnExactLinesInWrong)

/-- 'laws.FnExactLinesThrough': WHATEVER THE INPUT: true; the input reads as it did. -/
def fnExactLinesThroughSpec : ChangeSpec := { name := "fnExactLinesThrough", fn := fun _ => fun
  | [d1, d2] => { results := [.lit (.bool true)], args := [d1, d2] }
  | _ => none }
def fnExactLinesThroughRow : OpenClaim := { program := "ytfnifkffhfhfmab", sum := "6522ce413c1c37c7ffeb13c35c684e941835f3a13e23e5f562946afdaa5c4a83", func := "loop.example/g01203/laws.FnExactLinesThrough", spec := "fnExactLinesThrough", unfollowed := true, recurses := true, apart := false }
def FnExactLinesThroughSaid : Prop := fnExactLinesThroughRow.holds Try.pinned (OpenSpec.ofChange fnExactLinesThroughSpec)

/-- ITS FALSE NEIGHBOUR: 'it returns false'. Refute it at one input. -/
def fnExactLinesThroughWrong : ChangeSpec := { name := "fnExactLinesThrough", fn := fun _ => fun
  | [d1, d2] => { results := [.lit (.bool false)], args := [d1, d2] }
  | _ => none }
def FnExactLinesThroughWrongFalsely : Prop := fnExactLinesThroughRow.holds Try.pinned (OpenSpec.ofChange fnExactLinesThroughWrong)

/-- 'laws.FnExactSumCards': WHATEVER THE INPUT: true; the input reads as it did. -/
def fnExactSumCardsSpec : ChangeSpec := { name := "fnExactSumCards", fn := fun _ => fun
  | [d] => { results := [.lit (.bool true)], args := [d] }
  | _ => none }
def fnExactSumCardsRow : OpenClaim := { program := "ytfnifkffhfhfmab", sum := "6522ce413c1c37c7ffeb13c35c684e941835f3a13e23e5f562946afdaa5c4a83", func := "loop.example/g01203/laws.FnExactSumCards", spec := "fnExactSumCards", apart := false }
def FnExactSumCardsSaid : Prop := fnExactSumCardsRow.holds Try.pinned (OpenSpec.ofChange fnExactSumCardsSpec)

/-- ITS FALSE NEIGHBOUR: 'it returns false'. Refute it at one input. -/
def fnExactSumCardsWrong : ChangeSpec := { name := "fnExactSumCards", fn := fun _ => fun
  | [d] => { results := [.lit (.bool false)], args := [d] }
  | _ => none }
def FnExactSumCardsWrongFalsely : Prop := fnExactSumCardsRow.holds Try.pinned (OpenSpec.ofChange fnExactSumCardsWrong)

/-- 'laws.FnExactPutCard': WHATEVER THE INPUT: true; the input reads as it did. -/
def fnExactPutCardSpec : ChangeSpec := { name := "fnExactPutCard", fn := fun _ => fun
  | [d1, d2] => { results := [.lit (.bool true)], args := [d1, d2] }
  | _ => none }
def fnExactPutCardRow : OpenClaim := { program := "ytfnifkffhfhfmab", sum := "6522ce413c1c37c7ffeb13c35c684e941835f3a13e23e5f562946afdaa5c4a83", func := "loop.example/g01203/laws.FnExactPutCard", spec := "fnExactPutCard", unfollowed := true, recurses := true, apart := false }
def FnExactPutCardSaid : Prop := fnExactPutCardRow.holds Try.pinned (OpenSpec.ofChange fnExactPutCardSpec)

/-- ITS FALSE NEIGHBOUR: 'it returns false'. Refute it at one input. -/
def fnExactPutCardWrong : ChangeSpec := { name := "fnExactPutCard", fn := fun _ => fun
  | [d1, d2] => { results := [.lit (.bool false)], args := [d1, d2] }
  | _ => none }
def FnExactPutCardWrongFalsely : Prop := fnExactPutCardRow.holds Try.pinned (OpenSpec.ofChange fnExactPutCardWrong)

/-- 'laws.FnExactDropCard': WHATEVER THE INPUT: true; the input reads as it did. -/
def fnExactDropCardSpec : ChangeSpec := { name := "fnExactDropCard", fn := fun _ => fun
  | [d1, d2] => { results := [.lit (.bool true)], args := [d1, d2] }
  | _ => none }
def fnExactDropCardRow : OpenClaim := { program := "ytfnifkffhfhfmab", sum := "6522ce413c1c37c7ffeb13c35c684e941835f3a13e23e5f562946afdaa5c4a83", func := "loop.example/g01203/laws.FnExactDropCard", spec := "fnExactDropCard", unfollowed := true, recurses := true, apart := false }
def FnExactDropCardSaid : Prop := fnExactDropCardRow.holds Try.pinned (OpenSpec.ofChange fnExactDropCardSpec)

/-- ITS FALSE NEIGHBOUR: 'it returns false'. Refute it at one input. -/
def fnExactDropCardWrong : ChangeSpec := { name := "fnExactDropCard", fn := fun _ => fun
  | [d1, d2] => { results := [.lit (.bool false)], args := [d1, d2] }
  | _ => none }
def FnExactDropCardWrongFalsely : Prop := fnExactDropCardRow.holds Try.pinned (OpenSpec.ofChange fnExactDropCardWrong)

/-- 'laws.FnExactWithTrait': WHATEVER THE INPUT: true; the input reads as it did. -/
def fnExactWithTraitSpec : ChangeSpec := { name := "fnExactWithTrait", fn := fun _ => fun
  | [d1, d2, d3] => { results := [.lit (.bool true)], args := [d1, d2, d3] }
  | _ => none }
def fnExactWithTraitRow : OpenClaim := { program := "ytfnifkffhfhfmab", sum := "6522ce413c1c37c7ffeb13c35c684e941835f3a13e23e5f562946afdaa5c4a83", func := "loop.example/g01203/laws.FnExactWithTrait", spec := "fnExactWithTrait", apart := false }
def FnExactWithTraitSaid : Prop := fnExactWithTraitRow.holds Try.pinned (OpenSpec.ofChange fnExactWithTraitSpec)

/-- ITS FALSE NEIGHBOUR: 'it returns false'. Refute it at one input. -/
def fnExactWithTraitWrong : ChangeSpec := { name := "fnExactWithTrait", fn := fun _ => fun
  | [d1, d2, d3] => { results := [.lit (.bool false)], args := [d1, d2, d3] }
  | _ => none }
def FnExactWithTraitWrongFalsely : Prop := fnExactWithTraitRow.holds Try.pinned (OpenSpec.ofChange fnExactWithTraitWrong)

/-- 'laws.FnExactSortCards': WHATEVER THE INPUT: true; the input reads as it did. -/
def fnExactSortCardsSpec : ChangeSpec := { name := "fnExactSortCards", fn := fun _ => fun
  | [d] => { results := [.lit (.bool true)], args := [d] }
  | _ => none }
def fnExactSortCardsRow : OpenClaim := { program := "ytfnifkffhfhfmab", sum := "6522ce413c1c37c7ffeb13c35c684e941835f3a13e23e5f562946afdaa5c4a83", func := "loop.example/g01203/laws.FnExactSortCards", spec := "fnExactSortCards", apart := false }
def FnExactSortCardsSaid : Prop := fnExactSortCardsRow.holds Try.pinned (OpenSpec.ofChange fnExactSortCardsSpec)

/-- ITS FALSE NEIGHBOUR: 'it returns false'. Refute it at one input. -/
def fnExactSortCardsWrong : ChangeSpec := { name := "fnExactSortCards", fn := fun _ => fun
  | [d] => { results := [.lit (.bool false)], args := [d] }
  | _ => none }
def FnExactSortCardsWrongFalsely : Prop := fnExactSortCardsRow.holds Try.pinned (OpenSpec.ofChange fnExactSortCardsWrong)

/-- 'laws.FnExactCardText': WHATEVER THE INPUT: true; the input reads as it did. -/
def fnExactCardTextSpec : ChangeSpec := { name := "fnExactCardText", fn := fun _ => fun
  | [d] => { results := [.lit (.bool true)], args := [d] }
  | _ => none }
def fnExactCardTextRow : OpenClaim := { program := "ytfnifkffhfhfmab", sum := "6522ce413c1c37c7ffeb13c35c684e941835f3a13e23e5f562946afdaa5c4a83", func := "loop.example/g01203/laws.FnExactCardText", spec := "fnExactCardText", recurses := true, apart := false }
def FnExactCardTextSaid : Prop := fnExactCardTextRow.holds Try.pinned (OpenSpec.ofChange fnExactCardTextSpec)

/-- ITS FALSE NEIGHBOUR: 'it returns false'. Refute it at one input. -/
def fnExactCardTextWrong : ChangeSpec := { name := "fnExactCardText", fn := fun _ => fun
  | [d] => { results := [.lit (.bool false)], args := [d] }
  | _ => none }
def FnExactCardTextWrongFalsely : Prop := fnExactCardTextRow.holds Try.pinned (OpenSpec.ofChange fnExactCardTextWrong)

/-- 'laws.FnExactHandText': WHATEVER THE INPUT: true; the input reads as it did. -/
def fnExactHandTextSpec : ChangeSpec := { name := "fnExactHandText", fn := fun _ => fun
  | [d] => { results := [.lit (.bool true)], args := [d] }
  | _ => none }
def fnExactHandTextRow : OpenClaim := { program := "ytfnifkffhfhfmab", sum := "6522ce413c1c37c7ffeb13c35c684e941835f3a13e23e5f562946afdaa5c4a83", func := "loop.example/g01203/laws.FnExactHandText", spec := "fnExactHandText", inPlace := ["internal/abi.NoEscape", "internal/bytealg.MakeNoZero"], recurses := true, apart := false }
def FnExactHandTextSaid : Prop := fnExactHandTextRow.holds Try.pinned (OpenSpec.ofChange fnExactHandTextSpec)

/-- ITS FALSE NEIGHBOUR: 'it returns false'. Refute it at one input. -/
def fnExactHandTextWrong : ChangeSpec := { name := "fnExactHandText", fn := fun _ => fun
  | [d] => { results := [.lit (.bool false)], args := [d] }
  | _ => none }
def FnExactHandTextWrongFalsely : Prop := fnExactHandTextRow.holds Try.pinned (OpenSpec.ofChange fnExactHandTextWrong)

/-- 'laws.FnExactParseHand': WHATEVER THE INPUT: true; the input reads as it did. -/
def fnExactParseHandSpec : ChangeSpec := { name := "fnExactParseHand", fn := fun _ => fun
  | [d] => { results := [.lit (.bool true)], args := [d] }
  | _ => none }
def fnExactParseHandRow : OpenClaim := { program := "ytfnifkffhfhfmab", sum := "6522ce413c1c37c7ffeb13c35c684e941835f3a13e23e5f562946afdaa5c4a83", func := "loop.example/g01203/laws.FnExactParseHand", spec := "fnExactParseHand", unfollowed := true, recurses := true, apart := false }
def FnExactParseHandSaid : Prop := fnExactParseHandRow.holds Try.pinned (OpenSpec.ofChange fnExactParseHandSpec)

/-- ITS FALSE NEIGHBOUR: 'it returns false'. Refute it at one input. -/
def fnExactParseHandWrong : ChangeSpec := { name := "fnExactParseHand", fn := fun _ => fun
  | [d] => { results := [.lit (.bool false)], args := [d] }
  | _ => none }
def FnExactParseHandWrongFalsely : Prop := fnExactParseHandRow.holds Try.pinned (OpenSpec.ofChange fnExactParseHandWrong)

/- THE SECOND FORM. 'bulk': how many values and letters a reading holds, each counted each time it is reached (what is shared counts as often as it is met; a slice's spare places count too). A statement '..UptoSaid' is the law's where the arguments, and the package variables that the reading takes, are together of bulk at most 1048576: NARROWER than '..Said'. Prove '..Said' where nothing that the law and all that it calls make is longer than what came in: it says more and counts as full. Else prove '..UptoSaid'. A law counts once. -/
mutual
def uptoBulk {H : Type} : DataW H → Nat
  | .lit (.string bytes) => bytes.length + 1
  | .lit _ => 1
  | .nil => 1
  | .ptr d => uptoBulk d + 1
  | .slice elems spare => uptoBulkAll elems + uptoBulkAll spare + 1
  | .agg parts => uptoBulkAll parts + 1
  | .iface _ d => uptoBulk d + 1
  | .map entries => uptoBulkEntries entries + 1
  | .held _ => 1
def uptoBulkAll {H : Type} : List (DataW H) → Nat
  | [] => 0
  | d :: r => uptoBulk d + uptoBulkAll r
def uptoBulkEntries {H : Type} : List (Lit × DataW H) → Nat
  | [] => 0
  | x :: r => uptoBulkEntry x + uptoBulkEntries r
def uptoBulkEntry {H : Type} : Lit × DataW H → Nat
  | (.string bytes, d) => bytes.length + uptoBulk d + 1
  | (_, d) => uptoBulk d + 1
 end
def uptoSmall : (H : Type) → List (DataW H) → Bool := fun _ ds => decide (uptoBulkAll ds ≤ 1048576)
def OpenSpec.upto (s : _root_.Go.ChangeSpec) : _root_.Go.OpenSpec := { _root_.Go.OpenSpec.ofChange s with cond := some uptoSmall }

/-- 'laws.FnExactIsHand', WHERE WHAT IT READS IS OF BULK AT MOST 1048576: true; the input reads as it did. -/
def fnExactIsHandUptoRow : OpenClaim := { program := "ytfnifkffhfhfmab", sum := "6522ce413c1c37c7ffeb13c35c684e941835f3a13e23e5f562946afdaa5c4a83", func := "loop.example/g01203/laws.FnExactIsHand", spec := "fnExactIsHand", apart := false, narrowed := true }
def FnExactIsHandUptoSaid : Prop := fnExactIsHandUptoRow.holds Try.pinned (OpenSpec.upto fnExactIsHandSpec)

/-- 'laws.FnExactLinesIn', WHERE WHAT IT READS IS OF BULK AT MOST 1048576: true; the input reads as it did. -/
def fnExactLinesInUptoRow : OpenClaim := { program := "ytfnifkffhfhfmab", sum := "6522ce413c1c37c7ffeb13c35c684e941835f3a13e23e5f562946afdaa5c4a83", func := "loop.example/g01203/laws.FnExactLinesIn", spec := "fnExactLinesIn", unfollowed := true, recurses := true, apart := false, narrowed := true }
def FnExactLinesInUptoSaid : Prop := fnExactLinesInUptoRow.holds Try.pinned (OpenSpec.upto fnExactLinesInSpec)

/-- 'laws.FnExactLinesThrough', WHERE WHAT IT READS IS OF BULK AT MOST 1048576: true; the input reads as it did. -/
def fnExactLinesThroughUptoRow : OpenClaim := { program := "ytfnifkffhfhfmab", sum := "6522ce413c1c37c7ffeb13c35c684e941835f3a13e23e5f562946afdaa5c4a83", func := "loop.example/g01203/laws.FnExactLinesThrough", spec := "fnExactLinesThrough", unfollowed := true, recurses := true, apart := false, narrowed := true }
def FnExactLinesThroughUptoSaid : Prop := fnExactLinesThroughUptoRow.holds Try.pinned (OpenSpec.upto fnExactLinesThroughSpec)

/-- 'laws.FnExactSumCards', WHERE WHAT IT READS IS OF BULK AT MOST 1048576: true; the input reads as it did. -/
def fnExactSumCardsUptoRow : OpenClaim := { program := "ytfnifkffhfhfmab", sum := "6522ce413c1c37c7ffeb13c35c684e941835f3a13e23e5f562946afdaa5c4a83", func := "loop.example/g01203/laws.FnExactSumCards", spec := "fnExactSumCards", apart := false, narrowed := true }
def FnExactSumCardsUptoSaid : Prop := fnExactSumCardsUptoRow.holds Try.pinned (OpenSpec.upto fnExactSumCardsSpec)

/-- 'laws.FnExactPutCard', WHERE WHAT IT READS IS OF BULK AT MOST 1048576: true; the input reads as it did. -/
def fnExactPutCardUptoRow : OpenClaim := { program := "ytfnifkffhfhfmab", sum := "6522ce413c1c37c7ffeb13c35c684e941835f3a13e23e5f562946afdaa5c4a83", func := "loop.example/g01203/laws.FnExactPutCard", spec := "fnExactPutCard", unfollowed := true, recurses := true, apart := false, narrowed := true }
def FnExactPutCardUptoSaid : Prop := fnExactPutCardUptoRow.holds Try.pinned (OpenSpec.upto fnExactPutCardSpec)

/-- 'laws.FnExactDropCard', WHERE WHAT IT READS IS OF BULK AT MOST 1048576: true; the input reads as it did. -/
def fnExactDropCardUptoRow : OpenClaim := { program := "ytfnifkffhfhfmab", sum := "6522ce413c1c37c7ffeb13c35c684e941835f3a13e23e5f562946afdaa5c4a83", func := "loop.example/g01203/laws.FnExactDropCard", spec := "fnExactDropCard", unfollowed := true, recurses := true, apart := false, narrowed := true }
def FnExactDropCardUptoSaid : Prop := fnExactDropCardUptoRow.holds Try.pinned (OpenSpec.upto fnExactDropCardSpec)

/-- 'laws.FnExactWithTrait', WHERE WHAT IT READS IS OF BULK AT MOST 1048576: true; the input reads as it did. -/
def fnExactWithTraitUptoRow : OpenClaim := { program := "ytfnifkffhfhfmab", sum := "6522ce413c1c37c7ffeb13c35c684e941835f3a13e23e5f562946afdaa5c4a83", func := "loop.example/g01203/laws.FnExactWithTrait", spec := "fnExactWithTrait", apart := false, narrowed := true }
def FnExactWithTraitUptoSaid : Prop := fnExactWithTraitUptoRow.holds Try.pinned (OpenSpec.upto fnExactWithTraitSpec)

/-- 'laws.FnExactSortCards', WHERE WHAT IT READS IS OF BULK AT MOST 1048576: true; the input reads as it did. -/
def fnExactSortCardsUptoRow : OpenClaim := { program := "ytfnifkffhfhfmab", sum := "6522ce413c1c37c7ffeb13c35c684e941835f3a13e23e5f562946afdaa5c4a83", func := "loop.example/g01203/laws.FnExactSortCards", spec := "fnExactSortCards", apart := false, narrowed := true }
def FnExactSortCardsUptoSaid : Prop := fnExactSortCardsUptoRow.holds Try.pinned (OpenSpec.upto fnExactSortCardsSpec)

/-- 'laws.FnExactCardText', WHERE WHAT IT READS IS OF BULK AT MOST 1048576: true; the input reads as it did. -/
def fnExactCardTextUptoRow : OpenClaim := { program := "ytfnifkffhfhfmab", sum := "6522ce413c1c37c7ffeb13c35c684e941835f3a13e23e5f562946afdaa5c4a83", func := "loop.example/g01203/laws.FnExactCardText", spec := "fnExactCardText", recurses := true, apart := false, narrowed := true }
def FnExactCardTextUptoSaid : Prop := fnExactCardTextUptoRow.holds Try.pinned (OpenSpec.upto fnExactCardTextSpec)

/-- 'laws.FnExactHandText', WHERE WHAT IT READS IS OF BULK AT MOST 1048576: true; the input reads as it did. -/
def fnExactHandTextUptoRow : OpenClaim := { program := "ytfnifkffhfhfmab", sum := "6522ce413c1c37c7ffeb13c35c684e941835f3a13e23e5f562946afdaa5c4a83", func := "loop.example/g01203/laws.FnExactHandText", spec := "fnExactHandText", inPlace := ["internal/abi.NoEscape", "internal/bytealg.MakeNoZero"], recurses := true, apart := false, narrowed := true }
def FnExactHandTextUptoSaid : Prop := fnExactHandTextUptoRow.holds Try.pinned (OpenSpec.upto fnExactHandTextSpec)

/-- 'laws.FnExactParseHand', WHERE WHAT IT READS IS OF BULK AT MOST 1048576: true; the input reads as it did. -/
def fnExactParseHandUptoRow : OpenClaim := { program := "ytfnifkffhfhfmab", sum := "6522ce413c1c37c7ffeb13c35c684e941835f3a13e23e5f562946afdaa5c4a83", func := "loop.example/g01203/laws.FnExactParseHand", spec := "fnExactParseHand", unfollowed := true, recurses := true, apart := false, narrowed := true }
def FnExactParseHandUptoSaid : Prop := fnExactParseHandUptoRow.holds Try.pinned (OpenSpec.upto fnExactParseHandSpec)

end Rows
end Go.Proofs.Ytfnifkffhfhfmab
