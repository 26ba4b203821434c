/-
  No cell of these rows narrows 'for every input' (looked for: loops, veiled, ifaces, maps, wideKeys, modest, calm, conditions, laid).
  DERIVED. THE GIVEN ROWS OF THIS SEAT. 11 by the template 'for every input the law returns true; each argument reads behind the call as it read before'; 0 by the template 'total and deterministic' (their statements: YtbimbaogjknboabTotals.lean).
  GIVEN WITH THE SEED: the statements are not yours to turn. If you find one false, say at which input.
  Laid BY PROGRAM, IN A SANDBOX (cutbox-rows.mjs): the forced cells as the released guide's own fill.sh prints them over the translation bd07af9662f8d86e… (all of the seat's roots in one cut). By AI agents, Wed Nov 11 2026. No macro, syntax, notation, axiom, sorry.
-/
import Derived.Test.YtbimbaogjknboabChecked
import GoSem.Claim
import GoSem.ClaimJoined
import GoSem.ClaimMapViews
import Derived.JoinedTies
import Derived.KernelRfl
namespace Go.Proofs.Ytbimbaogjknboab
/- THE CELL 'sum', in the pinned program and in every row, IS THE sha256 OF THE DUMP (.gsa) THAT YtbimbaogjknboabProg.lean LOADS. Nothing in Lean hashes anything: it is a label: what it is worth is what the hold of that sum in a sandbox is worth. -/
noncomputable def Try.pinned : Pinned := { name := "ytbimbaogjknboab", sum := "bd07af9662f8d86e64f61ab0bfbc3c88dffd2f16167033875feac48e7ed22760", checked := Try.checked }
namespace Rows
def none {H : Type} : Left H := { results := [], args := [] }

/-- 'laws.FnExactJoinStrings': WHATEVER THE INPUT: true; the input reads as it did. -/
def fnExactJoinStringsSpec : ChangeSpec := { name := "fnExactJoinStrings", fn := fun _ => fun
  | [d1, d2] => { results := [.lit (.bool true)], args := [d1, d2] }
  | _ => none }
def fnExactJoinStringsRow : OpenClaim := { program := "ytbimbaogjknboab", sum := "bd07af9662f8d86e64f61ab0bfbc3c88dffd2f16167033875feac48e7ed22760", func := "loop.example/g01203/laws.FnExactJoinStrings", spec := "fnExactJoinStrings", inPlace := ["internal/abi.NoEscape", "internal/bytealg.MakeNoZero"], plainKeys := false, apart := false }
def FnExactJoinStringsSaid : Prop := fnExactJoinStringsRow.holds Try.pinned (OpenSpec.ofChange fnExactJoinStringsSpec)

/-- ITS FALSE NEIGHBOUR: 'it returns false'. Refute it at one input. -/
def fnExactJoinStringsWrong : ChangeSpec := { name := "fnExactJoinStrings", fn := fun _ => fun
  | [d1, d2] => { results := [.lit (.bool false)], args := [d1, d2] }
  | _ => none }
def FnExactJoinStringsWrongFalsely : Prop := fnExactJoinStringsRow.holds Try.pinned (OpenSpec.ofChange fnExactJoinStringsWrong)

/-- 'laws.FnExactLinesThrough': WHATEVER THE INPUT: true; the input reads as it did. -/
def fnExactLinesThroughSpec : ChangeSpec := { name := "fnExactLinesThrough", fn := fun _ => fun
  | [d1, d2] => { results := [.lit (.bool true)], args := [d1, d2] }
  | _ => none }
def fnExactLinesThroughRow : OpenClaim := { program := "ytbimbaogjknboab", sum := "bd07af9662f8d86e64f61ab0bfbc3c88dffd2f16167033875feac48e7ed22760", func := "loop.example/g01203/laws.FnExactLinesThrough", spec := "fnExactLinesThrough", unfollowed := true, recurses := true, plainKeys := false, apart := false }
def FnExactLinesThroughSaid : Prop := fnExactLinesThroughRow.holds Try.pinned (OpenSpec.ofChange fnExactLinesThroughSpec)

/-- ITS FALSE NEIGHBOUR: 'it returns false'. Refute it at one input. -/
def fnExactLinesThroughWrong : ChangeSpec := { name := "fnExactLinesThrough", fn := fun _ => fun
  | [d1, d2] => { results := [.lit (.bool false)], args := [d1, d2] }
  | _ => none }
def FnExactLinesThroughWrongFalsely : Prop := fnExactLinesThroughRow.holds Try.pinned (OpenSpec.ofChange fnExactLinesThroughWrong)

/-- 'laws.FnExactPutCard': WHATEVER THE INPUT: true; the input reads as it did. -/
def fnExactPutCardSpec : ChangeSpec := { name := "fnExactPutCard", fn := fun _ => fun
  | [d1, d2] => { results := [.lit (.bool true)], args := [d1, d2] }
  | _ => none }
def fnExactPutCardRow : OpenClaim := { program := "ytbimbaogjknboab", sum := "bd07af9662f8d86e64f61ab0bfbc3c88dffd2f16167033875feac48e7ed22760", func := "loop.example/g01203/laws.FnExactPutCard", spec := "fnExactPutCard", unfollowed := true, recurses := true, plainKeys := false, apart := false }
def FnExactPutCardSaid : Prop := fnExactPutCardRow.holds Try.pinned (OpenSpec.ofChange fnExactPutCardSpec)

/-- ITS FALSE NEIGHBOUR: 'it returns false'. Refute it at one input. -/
def fnExactPutCardWrong : ChangeSpec := { name := "fnExactPutCard", fn := fun _ => fun
  | [d1, d2] => { results := [.lit (.bool false)], args := [d1, d2] }
  | _ => none }
def FnExactPutCardWrongFalsely : Prop := fnExactPutCardRow.holds Try.pinned (OpenSpec.ofChange fnExactPutCardWrong)

/-- 'laws.FnExactDropCard': WHATEVER THE INPUT: true; the input reads as it did. -/
def fnExactDropCardSpec : ChangeSpec := { name := "fnExactDropCard", fn := fun _ => fun
  | [d1, d2] => { results := [.lit (.bool true)], args := [d1, d2] }
  | _ => none }
def fnExactDropCardRow : OpenClaim := { program := "ytbimbaogjknboab", sum := "bd07af9662f8d86e64f61ab0bfbc3c88dffd2f16167033875feac48e7ed22760", func := "loop.example/g01203/laws.FnExactDropCard", spec := "fnExactDropCard", unfollowed := true, recurses := true, plainKeys := false, apart := false }
def FnExactDropCardSaid : Prop := fnExactDropCardRow.holds Try.pinned (OpenSpec.ofChange fnExactDropCardSpec)

/-- ITS FALSE NEIGHBOUR: 'it returns false'. Refute it at one input. -/
def fnExactDropCardWrong : ChangeSpec := { name := "fnExactDropCard", fn := fun _ => fun
  | [d1, d2] => { results := [.lit (.bool false)], args := [d1, d2] }
  | _ => none }
def FnExactDropCardWrongFalsely : Prop := fnExactDropCardRow.holds Try.pinned (OpenSpec.ofChange fnExactDropCardWrong)

/-- 'laws.FnExactSortCards': WHATEVER THE INPUT: true; the input reads as it did. -/
def fnExactSortCardsSpec : ChangeSpec := { name := "fnExactSortCards", fn := fun _ => fun
  | [d] => { results := [.lit (.bool true)], args := [d] }
  | _ => none }
def fnExactSortCardsRow : OpenClaim := { program := "ytbimbaogjknboab", sum := "bd07af9662f8d86e64f61ab0bfbc3c88dffd2f16167033875feac48e7ed22760", func := "loop.example/g01203/laws.FnExactSortCards", spec := "fnExactSortCards", plainKeys := false, apart := false }
def FnExactSortCardsSaid : Prop := fnExactSortCardsRow.holds Try.pinned (OpenSpec.ofChange fnExactSortCardsSpec)

/-- ITS FALSE NEIGHBOUR: 'it returns false'. Refute it at one input. -/
def fnExactSortCardsWrong : ChangeSpec := { name := "fnExactSortCards", fn := fun _ => fun
  | [d] => { results := [.lit (.bool false)], args := [d] }
  | _ => none }
def FnExactSortCardsWrongFalsely : Prop := fnExactSortCardsRow.holds Try.pinned (OpenSpec.ofChange fnExactSortCardsWrong)

/-- 'laws.FnExactHandText': WHATEVER THE INPUT: true; the input reads as it did. -/
def fnExactHandTextSpec : ChangeSpec := { name := "fnExactHandText", fn := fun _ => fun
  | [d] => { results := [.lit (.bool true)], args := [d] }
  | _ => none }
def fnExactHandTextRow : OpenClaim := { program := "ytbimbaogjknboab", sum := "bd07af9662f8d86e64f61ab0bfbc3c88dffd2f16167033875feac48e7ed22760", func := "loop.example/g01203/laws.FnExactHandText", spec := "fnExactHandText", inPlace := ["internal/abi.NoEscape", "internal/bytealg.MakeNoZero"], recurses := true, plainKeys := false, apart := false }
def FnExactHandTextSaid : Prop := fnExactHandTextRow.holds Try.pinned (OpenSpec.ofChange fnExactHandTextSpec)

/-- ITS FALSE NEIGHBOUR: 'it returns false'. Refute it at one input. -/
def fnExactHandTextWrong : ChangeSpec := { name := "fnExactHandText", fn := fun _ => fun
  | [d] => { results := [.lit (.bool false)], args := [d] }
  | _ => none }
def FnExactHandTextWrongFalsely : Prop := fnExactHandTextRow.holds Try.pinned (OpenSpec.ofChange fnExactHandTextWrong)

/-- 'laws.FnExactParseHand': WHATEVER THE INPUT: true; the input reads as it did. -/
def fnExactParseHandSpec : ChangeSpec := { name := "fnExactParseHand", fn := fun _ => fun
  | [d] => { results := [.lit (.bool true)], args := [d] }
  | _ => none }
def fnExactParseHandRow : OpenClaim := { program := "ytbimbaogjknboab", sum := "bd07af9662f8d86e64f61ab0bfbc3c88dffd2f16167033875feac48e7ed22760", func := "loop.example/g01203/laws.FnExactParseHand", spec := "fnExactParseHand", unfollowed := true, recurses := true, plainKeys := false, apart := false }
def FnExactParseHandSaid : Prop := fnExactParseHandRow.holds Try.pinned (OpenSpec.ofChange fnExactParseHandSpec)

/-- ITS FALSE NEIGHBOUR: 'it returns false'. Refute it at one input. -/
def fnExactParseHandWrong : ChangeSpec := { name := "fnExactParseHand", fn := fun _ => fun
  | [d] => { results := [.lit (.bool false)], args := [d] }
  | _ => none }
def FnExactParseHandWrongFalsely : Prop := fnExactParseHandRow.holds Try.pinned (OpenSpec.ofChange fnExactParseHandWrong)

/-- 'laws.FnSplitJoin': WHATEVER THE INPUT: true; the input reads as it did. -/
def fnSplitJoinSpec : ChangeSpec := { name := "fnSplitJoin", fn := fun _ => fun
  | [d] => { results := [.lit (.bool true)], args := [d] }
  | _ => none }
def fnSplitJoinRow : OpenClaim := { program := "ytbimbaogjknboab", sum := "bd07af9662f8d86e64f61ab0bfbc3c88dffd2f16167033875feac48e7ed22760", func := "loop.example/g01203/laws.FnSplitJoin", spec := "fnSplitJoin", inPlace := ["internal/abi.NoEscape", "internal/bytealg.MakeNoZero"], unfollowed := true, recurses := true, plainKeys := false, apart := false }
def FnSplitJoinSaid : Prop := fnSplitJoinRow.holds Try.pinned (OpenSpec.ofChange fnSplitJoinSpec)

/-- ITS FALSE NEIGHBOUR: 'it returns false'. Refute it at one input. -/
def fnSplitJoinWrong : ChangeSpec := { name := "fnSplitJoin", fn := fun _ => fun
  | [d] => { results := [.lit (.bool false)], args := [d] }
  | _ => none }
def FnSplitJoinWrongFalsely : Prop := fnSplitJoinRow.holds Try.pinned (OpenSpec.ofChange fnSplitJoinWrong)

/-- 'laws.FnCaps': WHATEVER THE INPUT: true; the input reads as it did. -/
def fnCapsSpec : ChangeSpec := { name := "fnCaps", fn := fun _ => fun
  | [d] => { results := [.lit (.bool true)], args := [d] }
  | _ => none }
def fnCapsRow : OpenClaim := { program := "ytbimbaogjknboab", sum := "bd07af9662f8d86e64f61ab0bfbc3c88dffd2f16167033875feac48e7ed22760", func := "loop.example/g01203/laws.FnCaps", spec := "fnCaps", inPlace := ["slices.overlaps[[4]int]"], unfollowed := true, recurses := true, plainKeys := false, apart := false }
def FnCapsSaid : Prop := fnCapsRow.holds Try.pinned (OpenSpec.ofChange fnCapsSpec)

/-- ITS FALSE NEIGHBOUR: 'it returns false'. Refute it at one input. -/
def fnCapsWrong : ChangeSpec := { name := "fnCaps", fn := fun _ => fun
  | [d] => { results := [.lit (.bool false)], args := [d] }
  | _ => none }
def FnCapsWrongFalsely : Prop := fnCapsRow.holds Try.pinned (OpenSpec.ofChange fnCapsWrong)

/-- 'laws.FnGreatestCaps': WHATEVER THE INPUT: true; the input reads as it did. -/
def fnGreatestCapsSpec : ChangeSpec := { name := "fnGreatestCaps", fn := fun _ => fun
  | [d] => { results := [.lit (.bool true)], args := [d] }
  | _ => none }
def fnGreatestCapsRow : OpenClaim := { program := "ytbimbaogjknboab", sum := "bd07af9662f8d86e64f61ab0bfbc3c88dffd2f16167033875feac48e7ed22760", func := "loop.example/g01203/laws.FnGreatestCaps", spec := "fnGreatestCaps", unfollowed := true, recurses := true, plainKeys := false, apart := false }
def FnGreatestCapsSaid : Prop := fnGreatestCapsRow.holds Try.pinned (OpenSpec.ofChange fnGreatestCapsSpec)

/-- ITS FALSE NEIGHBOUR: 'it returns false'. Refute it at one input. -/
def fnGreatestCapsWrong : ChangeSpec := { name := "fnGreatestCaps", fn := fun _ => fun
  | [d] => { results := [.lit (.bool false)], args := [d] }
  | _ => none }
def FnGreatestCapsWrongFalsely : Prop := fnGreatestCapsRow.holds Try.pinned (OpenSpec.ofChange fnGreatestCapsWrong)

/-- 'laws.FnAnchors': WHATEVER THE INPUT: true; the input reads as it did. -/
def fnAnchorsSpec : ChangeSpec := { name := "fnAnchors", fn := fun _ => fun
  | [d] => { results := [.lit (.bool true)], args := [d] }
  | _ => none }
def fnAnchorsRow : OpenClaim := { program := "ytbimbaogjknboab", sum := "bd07af9662f8d86e64f61ab0bfbc3c88dffd2f16167033875feac48e7ed22760", func := "loop.example/g01203/laws.FnAnchors", spec := "fnAnchors", unfollowed := true, recurses := true, plainKeys := false, apart := false }
def FnAnchorsSaid : Prop := fnAnchorsRow.holds Try.pinned (OpenSpec.ofChange fnAnchorsSpec)

/-- ITS FALSE NEIGHBOUR: 'it returns false'. Refute it at one input. -/
def fnAnchorsWrong : ChangeSpec := { name := "fnAnchors", fn := fun _ => fun
  | [d] => { results := [.lit (.bool false)], args := [d] }
  | _ => none }
def FnAnchorsWrongFalsely : Prop := fnAnchorsRow.holds Try.pinned (OpenSpec.ofChange fnAnchorsWrong)

/- THE SECOND FORM. 'bulk': how many values and letters a reading holds, each counted each time it is reached (what is shared counts as often as it is met; a slice's spare places count too). A statement '..UptoSaid' is the law's where the arguments, and the package variables that the reading takes, are together of bulk at most 1048576: NARROWER than '..Said'. Prove '..Said' where nothing that the law and all that it calls make is longer than what came in: it says more and counts as full. Else prove '..UptoSaid'. A law counts once. -/
mutual
def uptoBulk {H : Type} : DataW H → Nat
  | .lit (.string bytes) => bytes.length + 1
  | .lit _ => 1
  | .nil => 1
  | .ptr d => uptoBulk d + 1
  | .slice elems spare => uptoBulkAll elems + uptoBulkAll spare + 1
  | .agg parts => uptoBulkAll parts + 1
  | .iface _ d => uptoBulk d + 1
  | .map entries => uptoBulkEntries entries + 1
  | .held _ => 1
def uptoBulkAll {H : Type} : List (DataW H) → Nat
  | [] => 0
  | d :: r => uptoBulk d + uptoBulkAll r
def uptoBulkEntries {H : Type} : List (Lit × DataW H) → Nat
  | [] => 0
  | x :: r => uptoBulkEntry x + uptoBulkEntries r
def uptoBulkEntry {H : Type} : Lit × DataW H → Nat
  | (.string bytes, d) => bytes.length + uptoBulk d + 1
  | (_, d) => uptoBulk d + 1
 end
def uptoSmall : (H : Type) → List (DataW H) → Bool := fun _ ds => decide (uptoBulkAll ds ≤ 1048576)
def OpenSpec.upto (s : _root_.Go.ChangeSpec) : _root_.Go.OpenSpec := { _root_.Go.OpenSpec.ofChange s with cond := some uptoSmall }

/-- 'laws.FnExactJoinStrings', WHERE WHAT IT READS IS OF BULK AT MOST 1048576: true; the input reads as it did. -/
def fnExactJoinStringsUptoRow : OpenClaim := { program := "ytbimbaogjknboab", sum := "bd07af9662f8d86e64f61ab0bfbc3c88dffd2f16167033875feac48e7ed22760", func := "loop.example/g01203/laws.FnExactJoinStrings", spec := "fnExactJoinStrings", inPlace := ["internal/abi.NoEscape", "internal/bytealg.MakeNoZero"], plainKeys := false, apart := false, narrowed := true }
def FnExactJoinStringsUptoSaid : Prop := fnExactJoinStringsUptoRow.holds Try.pinned (OpenSpec.upto fnExactJoinStringsSpec)

/-- 'laws.FnExactLinesThrough', WHERE WHAT IT READS IS OF BULK AT MOST 1048576: true; the input reads as it did. -/
def fnExactLinesThroughUptoRow : OpenClaim := { program := "ytbimbaogjknboab", sum := "bd07af9662f8d86e64f61ab0bfbc3c88dffd2f16167033875feac48e7ed22760", func := "loop.example/g01203/laws.FnExactLinesThrough", spec := "fnExactLinesThrough", unfollowed := true, recurses := true, plainKeys := false, apart := false, narrowed := true }
def FnExactLinesThroughUptoSaid : Prop := fnExactLinesThroughUptoRow.holds Try.pinned (OpenSpec.upto fnExactLinesThroughSpec)

/-- 'laws.FnExactPutCard', WHERE WHAT IT READS IS OF BULK AT MOST 1048576: true; the input reads as it did. -/
def fnExactPutCardUptoRow : OpenClaim := { program := "ytbimbaogjknboab", sum := "bd07af9662f8d86e64f61ab0bfbc3c88dffd2f16167033875feac48e7ed22760", func := "loop.example/g01203/laws.FnExactPutCard", spec := "fnExactPutCard", unfollowed := true, recurses := true, plainKeys := false, apart := false, narrowed := true }
def FnExactPutCardUptoSaid : Prop := fnExactPutCardUptoRow.holds Try.pinned (OpenSpec.upto fnExactPutCardSpec)

/-- 'laws.FnExactDropCard', WHERE WHAT IT READS IS OF BULK AT MOST 1048576: true; the input reads as it did. -/
def fnExactDropCardUptoRow : OpenClaim := { program := "ytbimbaogjknboab", sum := "bd07af9662f8d86e64f61ab0bfbc3c88dffd2f16167033875feac48e7ed22760", func := "loop.example/g01203/laws.FnExactDropCard", spec := "fnExactDropCard", unfollowed := true, recurses := true, plainKeys := false, apart := false, narrowed := true }
def FnExactDropCardUptoSaid : Prop := fnExactDropCardUptoRow.holds Try.pinned (OpenSpec.upto fnExactDropCardSpec)

/-- 'laws.FnExactSortCards', WHERE WHAT IT READS IS OF BULK AT MOST 1048576: true; the input reads as it did. -/
def fnExactSortCardsUptoRow : OpenClaim := { program := "ytbimbaogjknboab", sum := "bd07af9662f8d86e64f61ab0bfbc3c88dffd2f16167033875feac48e7ed22760", func := "loop.example/g01203/laws.FnExactSortCards", spec := "fnExactSortCards", plainKeys := false, apart := false, narrowed := true }
def FnExactSortCardsUptoSaid : Prop := fnExactSortCardsUptoRow.holds Try.pinned (OpenSpec.upto fnExactSortCardsSpec)

/-- 'laws.FnExactHandText', WHERE WHAT IT READS IS OF BULK AT MOST 1048576: true; the input reads as it did. -/
def fnExactHandTextUptoRow : OpenClaim := { program := "ytbimbaogjknboab", sum := "bd07af9662f8d86e64f61ab0bfbc3c88dffd2f16167033875feac48e7ed22760", func := "loop.example/g01203/laws.FnExactHandText", spec := "fnExactHandText", inPlace := ["internal/abi.NoEscape", "internal/bytealg.MakeNoZero"], recurses := true, plainKeys := false, apart := false, narrowed := true }
def FnExactHandTextUptoSaid : Prop := fnExactHandTextUptoRow.holds Try.pinned (OpenSpec.upto fnExactHandTextSpec)

/-- 'laws.FnExactParseHand', WHERE WHAT IT READS IS OF BULK AT MOST 1048576: true; the input reads as it did. -/
def fnExactParseHandUptoRow : OpenClaim := { program := "ytbimbaogjknboab", sum := "bd07af9662f8d86e64f61ab0bfbc3c88dffd2f16167033875feac48e7ed22760", func := "loop.example/g01203/laws.FnExactParseHand", spec := "fnExactParseHand", unfollowed := true, recurses := true, plainKeys := false, apart := false, narrowed := true }
def FnExactParseHandUptoSaid : Prop := fnExactParseHandUptoRow.holds Try.pinned (OpenSpec.upto fnExactParseHandSpec)

/-- 'laws.FnSplitJoin', WHERE WHAT IT READS IS OF BULK AT MOST 1048576: true; the input reads as it did. -/
def fnSplitJoinUptoRow : OpenClaim := { program := "ytbimbaogjknboab", sum := "bd07af9662f8d86e64f61ab0bfbc3c88dffd2f16167033875feac48e7ed22760", func := "loop.example/g01203/laws.FnSplitJoin", spec := "fnSplitJoin", inPlace := ["internal/abi.NoEscape", "internal/bytealg.MakeNoZero"], unfollowed := true, recurses := true, plainKeys := false, apart := false, narrowed := true }
def FnSplitJoinUptoSaid : Prop := fnSplitJoinUptoRow.holds Try.pinned (OpenSpec.upto fnSplitJoinSpec)

/-- 'laws.FnCaps', WHERE WHAT IT READS IS OF BULK AT MOST 1048576: true; the input reads as it did. -/
def fnCapsUptoRow : OpenClaim := { program := "ytbimbaogjknboab", sum := "bd07af9662f8d86e64f61ab0bfbc3c88dffd2f16167033875feac48e7ed22760", func := "loop.example/g01203/laws.FnCaps", spec := "fnCaps", inPlace := ["slices.overlaps[[4]int]"], unfollowed := true, recurses := true, plainKeys := false, apart := false, narrowed := true }
def FnCapsUptoSaid : Prop := fnCapsUptoRow.holds Try.pinned (OpenSpec.upto fnCapsSpec)

/-- 'laws.FnGreatestCaps', WHERE WHAT IT READS IS OF BULK AT MOST 1048576: true; the input reads as it did. -/
def fnGreatestCapsUptoRow : OpenClaim := { program := "ytbimbaogjknboab", sum := "bd07af9662f8d86e64f61ab0bfbc3c88dffd2f16167033875feac48e7ed22760", func := "loop.example/g01203/laws.FnGreatestCaps", spec := "fnGreatestCaps", unfollowed := true, recurses := true, plainKeys := false, apart := false, narrowed := true }
def FnGreatestCapsUptoSaid : Prop := fnGreatestCapsUptoRow.holds Try.pinned (OpenSpec.upto fnGreatestCapsSpec)

/-- 'laws.FnAnchors', WHERE WHAT IT READS IS OF BULK AT MOST 1048576: true; the input reads as it did. -/
def fnAnchorsUptoRow : OpenClaim := { program := "ytbimbaogjknboab", sum := "bd07af9662f8d86e64f61ab0bfbc3c88dffd2f16167033875feac48e7ed22760", func := "loop.example/g01203/laws.FnAnchors", spec := "fnAnchors", unfollowed := true, recurses := true, plainKeys := false, apart := false, narrowed := true }
def FnAnchorsUptoSaid : Prop := fnAnchorsUptoRow.holds Try.pinned (OpenSpec.upto fnAnchorsSpec)

end Rows
end Go.Proofs.Ytbimbaogjknboab
