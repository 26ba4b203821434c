/-
  No cell of these rows narrows 'for every input' (looked for: loops, veiled, ifaces, maps, wideKeys, modest, calm, conditions, laid).
  DERIVED. THE GIVEN ROWS OF THIS SEAT. 11 by the template 'for every input the law returns true; each argument reads behind the call as it read before'; 0 by the template 'total and deterministic' (their statements: YtfnifkffhfhfmaaTotals.lean).
  GIVEN WITH THE SEED: the statements are not yours to turn. If you find one false, say at which input.
  Laid BY PROGRAM, IN A SANDBOX (cutbox-rows.mjs): the forced cells as the released guide's own fill.sh prints them over the translation 43a375d8bdb676e1… (all of the seat's roots in one cut). By AI agents, Wed Nov 11 2026. No macro, syntax, notation, axiom, sorry.
-/
import Derived.Test.YtfnifkffhfhfmaaChecked
import GoSem.Claim
import GoSem.ClaimJoined
import GoSem.ClaimMapViews
import Derived.JoinedTies
import Derived.KernelRfl
namespace Go.Proofs.Ytfnifkffhfhfmaa
/- THE CELL 'sum', in the pinned program and in every row, IS THE sha256 OF THE DUMP (.gsa) THAT YtfnifkffhfhfmaaProg.lean LOADS. Nothing in Lean hashes anything: it is a label: what it is worth is what the hold of that sum in a sandbox is worth. -/
noncomputable def Try.pinned : Pinned := { name := "ytfnifkffhfhfmaa", sum := "43a375d8bdb676e1d691a40c490450861e16bb025d700510120f948cb020ec6d", checked := Try.checked }
namespace Rows
def none {H : Type} : Left H := { results := [], args := [] }

/-- 'laws.FnSplitJoin': WHATEVER THE INPUT: true; the input reads as it did. -/
def fnSplitJoinSpec : ChangeSpec := { name := "fnSplitJoin", fn := fun _ => fun
  | [d] => { results := [.lit (.bool true)], args := [d] }
  | _ => none }
def fnSplitJoinRow : OpenClaim := { program := "ytfnifkffhfhfmaa", sum := "43a375d8bdb676e1d691a40c490450861e16bb025d700510120f948cb020ec6d", func := "loop.example/g01203/laws.FnSplitJoin", spec := "fnSplitJoin", inPlace := ["internal/abi.NoEscape", "internal/bytealg.MakeNoZero"], unfollowed := true, recurses := true, apart := false }
def FnSplitJoinSaid : Prop := fnSplitJoinRow.holds Try.pinned (OpenSpec.ofChange fnSplitJoinSpec)

/-- ITS FALSE NEIGHBOUR: 'it returns false'. Refute it at one input. -/
def fnSplitJoinWrong : ChangeSpec := { name := "fnSplitJoin", fn := fun _ => fun
  | [d] => { results := [.lit (.bool false)], args := [d] }
  | _ => none }
def FnSplitJoinWrongFalsely : Prop := fnSplitJoinRow.holds Try.pinned (OpenSpec.ofChange fnSplitJoinWrong)

/-- 'laws.FnCards': WHATEVER THE INPUT: true; the input reads as it did. -/
def fnCardsSpec : ChangeSpec := { name := "fnCards", fn := fun _ => fun
  | [d] => { results := [.lit (.bool true)], args := [d] }
  | _ => none }
def fnCardsRow : OpenClaim := { program := "ytfnifkffhfhfmaa", sum := "43a375d8bdb676e1d691a40c490450861e16bb025d700510120f948cb020ec6d", func := "loop.example/g01203/laws.FnCards", spec := "fnCards", unfollowed := true, recurses := true, apart := false }
def FnCardsSaid : Prop := fnCardsRow.holds Try.pinned (OpenSpec.ofChange fnCardsSpec)

/-- ITS FALSE NEIGHBOUR: 'it returns false'. Refute it at one input. -/
def fnCardsWrong : ChangeSpec := { name := "fnCards", fn := fun _ => fun
  | [d] => { results := [.lit (.bool false)], args := [d] }
  | _ => none }
def FnCardsWrongFalsely : Prop := fnCardsRow.holds Try.pinned (OpenSpec.ofChange fnCardsWrong)

/-- 'laws.FnHands': WHATEVER THE INPUT: true; the input reads as it did. -/
def fnHandsSpec : ChangeSpec := { name := "fnHands", fn := fun _ => fun
  | [d] => { results := [.lit (.bool true)], args := [d] }
  | _ => none }
def fnHandsRow : OpenClaim := { program := "ytfnifkffhfhfmaa", sum := "43a375d8bdb676e1d691a40c490450861e16bb025d700510120f948cb020ec6d", func := "loop.example/g01203/laws.FnHands", spec := "fnHands", inPlace := ["internal/abi.NoEscape", "internal/bytealg.MakeNoZero"], unfollowed := true, recurses := true, apart := false }
def FnHandsSaid : Prop := fnHandsRow.holds Try.pinned (OpenSpec.ofChange fnHandsSpec)

/-- ITS FALSE NEIGHBOUR: 'it returns false'. Refute it at one input. -/
def fnHandsWrong : ChangeSpec := { name := "fnHands", fn := fun _ => fun
  | [d] => { results := [.lit (.bool false)], args := [d] }
  | _ => none }
def FnHandsWrongFalsely : Prop := fnHandsRow.holds Try.pinned (OpenSpec.ofChange fnHandsWrong)

/-- 'laws.FnExactJoinStrings': WHATEVER THE INPUT: true; the input reads as it did. -/
def fnExactJoinStringsSpec : ChangeSpec := { name := "fnExactJoinStrings", fn := fun _ => fun
  | [d1, d2] => { results := [.lit (.bool true)], args := [d1, d2] }
  | _ => none }
def fnExactJoinStringsRow : OpenClaim := { program := "ytfnifkffhfhfmaa", sum := "43a375d8bdb676e1d691a40c490450861e16bb025d700510120f948cb020ec6d", func := "loop.example/g01203/laws.FnExactJoinStrings", spec := "fnExactJoinStrings", inPlace := ["internal/abi.NoEscape", "internal/bytealg.MakeNoZero"], apart := false }
def FnExactJoinStringsSaid : Prop := fnExactJoinStringsRow.holds Try.pinned (OpenSpec.ofChange fnExactJoinStringsSpec)

/-- ITS FALSE NEIGHBOUR: 'it returns false'. Refute it at one input. -/
def fnExactJoinStringsWrong : ChangeSpec := { name := "fnExactJoinStrings", fn := fun _ => fun
  | [d1, d2] => { results := [.lit (.bool false)], args := [d1, d2] }
  | _ => none }
def FnExactJoinStringsWrongFalsely : Prop := fnExactJoinStringsRow.holds Try.pinned (OpenSpec.ofChange fnExactJoinStringsWrong)

/-- 'laws.FnExactIsCard': WHATEVER THE INPUT: true; the input reads as it did. -/
def fnExactIsCardSpec : ChangeSpec := { name := "fnExactIsCard", fn := fun _ => fun
  | [d] => { results := [.lit (.bool true)], args := [d] }
  | _ => none }
def fnExactIsCardRow : OpenClaim := { program := "ytfnifkffhfhfmaa", sum := "43a375d8bdb676e1d691a40c490450861e16bb025d700510120f948cb020ec6d", func := "loop.example/g01203/laws.FnExactIsCard", spec := "fnExactIsCard", apart := false }
def FnExactIsCardSaid : Prop := fnExactIsCardRow.holds Try.pinned (OpenSpec.ofChange fnExactIsCardSpec)

/-- ITS FALSE NEIGHBOUR: 'it returns false'. Refute it at one input. -/
def fnExactIsCardWrong : ChangeSpec := { name := "fnExactIsCard", fn := fun _ => fun
  | [d] => { results := [.lit (.bool false)], args := [d] }
  | _ => none }
def FnExactIsCardWrongFalsely : Prop := fnExactIsCardRow.holds Try.pinned (OpenSpec.ofChange fnExactIsCardWrong)

/-- 'laws.FnExactCardNumber': WHATEVER THE INPUT: true; the input reads as it did. -/
def fnExactCardNumberSpec : ChangeSpec := { name := "fnExactCardNumber", fn := fun _ => fun
  | [d] => { results := [.lit (.bool true)], args := [d] }
  | _ => none }
def fnExactCardNumberRow : OpenClaim := { program := "ytfnifkffhfhfmaa", sum := "43a375d8bdb676e1d691a40c490450861e16bb025d700510120f948cb020ec6d", func := "loop.example/g01203/laws.FnExactCardNumber", spec := "fnExactCardNumber", apart := false }
def FnExactCardNumberSaid : Prop := fnExactCardNumberRow.holds Try.pinned (OpenSpec.ofChange fnExactCardNumberSpec)

/-- ITS FALSE NEIGHBOUR: 'it returns false'. Refute it at one input. -/
def fnExactCardNumberWrong : ChangeSpec := { name := "fnExactCardNumber", fn := fun _ => fun
  | [d] => { results := [.lit (.bool false)], args := [d] }
  | _ => none }
def FnExactCardNumberWrongFalsely : Prop := fnExactCardNumberRow.holds Try.pinned (OpenSpec.ofChange fnExactCardNumberWrong)

/-- 'laws.FnExactCardAt': WHATEVER THE INPUT: true; the input reads as it did. -/
def fnExactCardAtSpec : ChangeSpec := { name := "fnExactCardAt", fn := fun _ => fun
  | [d] => { results := [.lit (.bool true)], args := [d] }
  | _ => none }
def fnExactCardAtRow : OpenClaim := { program := "ytfnifkffhfhfmaa", sum := "43a375d8bdb676e1d691a40c490450861e16bb025d700510120f948cb020ec6d", func := "loop.example/g01203/laws.FnExactCardAt", spec := "fnExactCardAt", apart := false }
def FnExactCardAtSaid : Prop := fnExactCardAtRow.holds Try.pinned (OpenSpec.ofChange fnExactCardAtSpec)

/-- ITS FALSE NEIGHBOUR: 'it returns false'. Refute it at one input. -/
def fnExactCardAtWrong : ChangeSpec := { name := "fnExactCardAt", fn := fun _ => fun
  | [d] => { results := [.lit (.bool false)], args := [d] }
  | _ => none }
def FnExactCardAtWrongFalsely : Prop := fnExactCardAtRow.holds Try.pinned (OpenSpec.ofChange fnExactCardAtWrong)

/-- 'laws.FnExactThirdCard': WHATEVER THE INPUT: true; the input reads as it did. -/
def fnExactThirdCardSpec : ChangeSpec := { name := "fnExactThirdCard", fn := fun _ => fun
  | [d1, d2] => { results := [.lit (.bool true)], args := [d1, d2] }
  | _ => none }
def fnExactThirdCardRow : OpenClaim := { program := "ytfnifkffhfhfmaa", sum := "43a375d8bdb676e1d691a40c490450861e16bb025d700510120f948cb020ec6d", func := "loop.example/g01203/laws.FnExactThirdCard", spec := "fnExactThirdCard", apart := false }
def FnExactThirdCardSaid : Prop := fnExactThirdCardRow.holds Try.pinned (OpenSpec.ofChange fnExactThirdCardSpec)

/-- ITS FALSE NEIGHBOUR: 'it returns false'. Refute it at one input. -/
def fnExactThirdCardWrong : ChangeSpec := { name := "fnExactThirdCard", fn := fun _ => fun
  | [d1, d2] => { results := [.lit (.bool false)], args := [d1, d2] }
  | _ => none }
def FnExactThirdCardWrongFalsely : Prop := fnExactThirdCardRow.holds Try.pinned (OpenSpec.ofChange fnExactThirdCardWrong)

/-- 'laws.FnExactIsLine': WHATEVER THE INPUT: true; the input reads as it did. -/
def fnExactIsLineSpec : ChangeSpec := { name := "fnExactIsLine", fn := fun _ => fun
  | [d1, d2, d3] => { results := [.lit (.bool true)], args := [d1, d2, d3] }
  | _ => none }
def fnExactIsLineRow : OpenClaim := { program := "ytfnifkffhfhfmaa", sum := "43a375d8bdb676e1d691a40c490450861e16bb025d700510120f948cb020ec6d", func := "loop.example/g01203/laws.FnExactIsLine", spec := "fnExactIsLine", unfollowed := true, recurses := true, apart := false }
def FnExactIsLineSaid : Prop := fnExactIsLineRow.holds Try.pinned (OpenSpec.ofChange fnExactIsLineSpec)

/-- ITS FALSE NEIGHBOUR: 'it returns false'. Refute it at one input. -/
def fnExactIsLineWrong : ChangeSpec := { name := "fnExactIsLine", fn := fun _ => fun
  | [d1, d2, d3] => { results := [.lit (.bool false)], args := [d1, d2, d3] }
  | _ => none }
def FnExactIsLineWrongFalsely : Prop := fnExactIsLineRow.holds Try.pinned (OpenSpec.ofChange fnExactIsLineWrong)

/-- 'laws.FnExactLineKind': WHATEVER THE INPUT: true; the input reads as it did. -/
def fnExactLineKindSpec : ChangeSpec := { name := "fnExactLineKind", fn := fun _ => fun
  | [d1, d2, d3] => { results := [.lit (.bool true)], args := [d1, d2, d3] }
  | _ => none }
def fnExactLineKindRow : OpenClaim := { program := "ytfnifkffhfhfmaa", sum := "43a375d8bdb676e1d691a40c490450861e16bb025d700510120f948cb020ec6d", func := "loop.example/g01203/laws.FnExactLineKind", spec := "fnExactLineKind", unfollowed := true, recurses := true, apart := false }
def FnExactLineKindSaid : Prop := fnExactLineKindRow.holds Try.pinned (OpenSpec.ofChange fnExactLineKindSpec)

/-- ITS FALSE NEIGHBOUR: 'it returns false'. Refute it at one input. -/
def fnExactLineKindWrong : ChangeSpec := { name := "fnExactLineKind", fn := fun _ => fun
  | [d1, d2, d3] => { results := [.lit (.bool false)], args := [d1, d2, d3] }
  | _ => none }
def FnExactLineKindWrongFalsely : Prop := fnExactLineKindRow.holds Try.pinned (OpenSpec.ofChange fnExactLineKindWrong)

/-- 'laws.FnExactDifferIn': WHATEVER THE INPUT: true; the input reads as it did. -/
def fnExactDifferInSpec : ChangeSpec := { name := "fnExactDifferIn", fn := fun _ => fun
  | [d1, d2] => { results := [.lit (.bool true)], args := [d1, d2] }
  | _ => none }
def fnExactDifferInRow : OpenClaim := { program := "ytfnifkffhfhfmaa", sum := "43a375d8bdb676e1d691a40c490450861e16bb025d700510120f948cb020ec6d", func := "loop.example/g01203/laws.FnExactDifferIn", spec := "fnExactDifferIn", apart := false }
def FnExactDifferInSaid : Prop := fnExactDifferInRow.holds Try.pinned (OpenSpec.ofChange fnExactDifferInSpec)

/-- ITS FALSE NEIGHBOUR: 'it returns false'. Refute it at one input. -/
def fnExactDifferInWrong : ChangeSpec := { name := "fnExactDifferIn", fn := fun _ => fun
  | [d1, d2] => { results := [.lit (.bool false)], args := [d1, d2] }
  | _ => none }
def FnExactDifferInWrongFalsely : Prop := fnExactDifferInRow.holds Try.pinned (OpenSpec.ofChange fnExactDifferInWrong)

/- THE SECOND FORM. 'bulk': how many values and letters a reading holds, each counted each time it is reached (what is shared counts as often as it is met; a slice's spare places count too). A statement '..UptoSaid' is the law's where the arguments, and the package variables that the reading takes, are together of bulk at most 1048576: NARROWER than '..Said'. Prove '..Said' where nothing that the law and all that it calls make is longer than what came in: it says more and counts as full. Else prove '..UptoSaid'. A law counts once. -/
mutual
def uptoBulk {H : Type} : DataW H → Nat
  | .lit (.string bytes) => bytes.length + 1
  | .lit _ => 1
  | .nil => 1
  | .ptr d => uptoBulk d + 1
  | .slice elems spare => uptoBulkAll elems + uptoBulkAll spare + 1
  | .agg parts => uptoBulkAll parts + 1
  | .iface _ d => uptoBulk d + 1
  | .map entries => uptoBulkEntries entries + 1
  | .held _ => 1
def uptoBulkAll {H : Type} : List (DataW H) → Nat
  | [] => 0
  | d :: r => uptoBulk d + uptoBulkAll r
def uptoBulkEntries {H : Type} : List (Lit × DataW H) → Nat
  | [] => 0
  | x :: r => uptoBulkEntry x + uptoBulkEntries r
def uptoBulkEntry {H : Type} : Lit × DataW H → Nat
  | (.string bytes, d) => bytes.length + uptoBulk d + 1
  | (_, d) => uptoBulk d + 1
 end
def uptoSmall : (H : Type) → List (DataW H) → Bool := fun _ ds => decide (uptoBulkAll ds ≤ 1048576)
def OpenSpec.upto (s : _root_.Go.ChangeSpec) : _root_.Go.OpenSpec := { _root_.Go.OpenSpec.ofChange s with cond := some uptoSmall }

/-- 'laws.FnSplitJoin', WHERE WHAT IT READS IS OF BULK AT MOST 1048576: true; the input reads as it did. -/
def fnSplitJoinUptoRow : OpenClaim := { program := "ytfnifkffhfhfmaa", sum := "43a375d8bdb676e1d691a40c490450861e16bb025d700510120f948cb020ec6d", func := "loop.example/g01203/laws.FnSplitJoin", spec := "fnSplitJoin", inPlace := ["internal/abi.NoEscape", "internal/bytealg.MakeNoZero"], unfollowed := true, recurses := true, apart := false, narrowed := true }
def FnSplitJoinUptoSaid : Prop := fnSplitJoinUptoRow.holds Try.pinned (OpenSpec.upto fnSplitJoinSpec)

/-- 'laws.FnCards', WHERE WHAT IT READS IS OF BULK AT MOST 1048576: true; the input reads as it did. -/
def fnCardsUptoRow : OpenClaim := { program := "ytfnifkffhfhfmaa", sum := "43a375d8bdb676e1d691a40c490450861e16bb025d700510120f948cb020ec6d", func := "loop.example/g01203/laws.FnCards", spec := "fnCards", unfollowed := true, recurses := true, apart := false, narrowed := true }
def FnCardsUptoSaid : Prop := fnCardsUptoRow.holds Try.pinned (OpenSpec.upto fnCardsSpec)

/-- 'laws.FnHands', WHERE WHAT IT READS IS OF BULK AT MOST 1048576: true; the input reads as it did. -/
def fnHandsUptoRow : OpenClaim := { program := "ytfnifkffhfhfmaa", sum := "43a375d8bdb676e1d691a40c490450861e16bb025d700510120f948cb020ec6d", func := "loop.example/g01203/laws.FnHands", spec := "fnHands", inPlace := ["internal/abi.NoEscape", "internal/bytealg.MakeNoZero"], unfollowed := true, recurses := true, apart := false, narrowed := true }
def FnHandsUptoSaid : Prop := fnHandsUptoRow.holds Try.pinned (OpenSpec.upto fnHandsSpec)

/-- 'laws.FnExactJoinStrings', WHERE WHAT IT READS IS OF BULK AT MOST 1048576: true; the input reads as it did. -/
def fnExactJoinStringsUptoRow : OpenClaim := { program := "ytfnifkffhfhfmaa", sum := "43a375d8bdb676e1d691a40c490450861e16bb025d700510120f948cb020ec6d", func := "loop.example/g01203/laws.FnExactJoinStrings", spec := "fnExactJoinStrings", inPlace := ["internal/abi.NoEscape", "internal/bytealg.MakeNoZero"], apart := false, narrowed := true }
def FnExactJoinStringsUptoSaid : Prop := fnExactJoinStringsUptoRow.holds Try.pinned (OpenSpec.upto fnExactJoinStringsSpec)

/-- 'laws.FnExactIsCard', WHERE WHAT IT READS IS OF BULK AT MOST 1048576: true; the input reads as it did. -/
def fnExactIsCardUptoRow : OpenClaim := { program := "ytfnifkffhfhfmaa", sum := "43a375d8bdb676e1d691a40c490450861e16bb025d700510120f948cb020ec6d", func := "loop.example/g01203/laws.FnExactIsCard", spec := "fnExactIsCard", apart := false, narrowed := true }
def FnExactIsCardUptoSaid : Prop := fnExactIsCardUptoRow.holds Try.pinned (OpenSpec.upto fnExactIsCardSpec)

/-- 'laws.FnExactCardNumber', WHERE WHAT IT READS IS OF BULK AT MOST 1048576: true; the input reads as it did. -/
def fnExactCardNumberUptoRow : OpenClaim := { program := "ytfnifkffhfhfmaa", sum := "43a375d8bdb676e1d691a40c490450861e16bb025d700510120f948cb020ec6d", func := "loop.example/g01203/laws.FnExactCardNumber", spec := "fnExactCardNumber", apart := false, narrowed := true }
def FnExactCardNumberUptoSaid : Prop := fnExactCardNumberUptoRow.holds Try.pinned (OpenSpec.upto fnExactCardNumberSpec)

/-- 'laws.FnExactCardAt', WHERE WHAT IT READS IS OF BULK AT MOST 1048576: true; the input reads as it did. -/
def fnExactCardAtUptoRow : OpenClaim := { program := "ytfnifkffhfhfmaa", sum := "43a375d8bdb676e1d691a40c490450861e16bb025d700510120f948cb020ec6d", func := "loop.example/g01203/laws.FnExactCardAt", spec := "fnExactCardAt", apart := false, narrowed := true }
def FnExactCardAtUptoSaid : Prop := fnExactCardAtUptoRow.holds Try.pinned (OpenSpec.upto fnExactCardAtSpec)

/-- 'laws.FnExactThirdCard', WHERE WHAT IT READS IS OF BULK AT MOST 1048576: true; the input reads as it did. -/
def fnExactThirdCardUptoRow : OpenClaim := { program := "ytfnifkffhfhfmaa", sum := "43a375d8bdb676e1d691a40c490450861e16bb025d700510120f948cb020ec6d", func := "loop.example/g01203/laws.FnExactThirdCard", spec := "fnExactThirdCard", apart := false, narrowed := true }
def FnExactThirdCardUptoSaid : Prop := fnExactThirdCardUptoRow.holds Try.pinned (OpenSpec.upto fnExactThirdCardSpec)

/-- 'laws.FnExactIsLine', WHERE WHAT IT READS IS OF BULK AT MOST 1048576: true; the input reads as it did. -/
def fnExactIsLineUptoRow : OpenClaim := { program := "ytfnifkffhfhfmaa", sum := "43a375d8bdb676e1d691a40c490450861e16bb025d700510120f948cb020ec6d", func := "loop.example/g01203/laws.FnExactIsLine", spec := "fnExactIsLine", unfollowed := true, recurses := true, apart := false, narrowed := true }
def FnExactIsLineUptoSaid : Prop := fnExactIsLineUptoRow.holds Try.pinned (OpenSpec.upto fnExactIsLineSpec)

/-- 'laws.FnExactLineKind', WHERE WHAT IT READS IS OF BULK AT MOST 1048576: true; the input reads as it did. -/
def fnExactLineKindUptoRow : OpenClaim := { program := "ytfnifkffhfhfmaa", sum := "43a375d8bdb676e1d691a40c490450861e16bb025d700510120f948cb020ec6d", func := "loop.example/g01203/laws.FnExactLineKind", spec := "fnExactLineKind", unfollowed := true, recurses := true, apart := false, narrowed := true }
def FnExactLineKindUptoSaid : Prop := fnExactLineKindUptoRow.holds Try.pinned (OpenSpec.upto fnExactLineKindSpec)

/-- 'laws.FnExactDifferIn', WHERE WHAT IT READS IS OF BULK AT MOST 1048576: true; the input reads as it did. -/
def fnExactDifferInUptoRow : OpenClaim := { program := "ytfnifkffhfhfmaa", sum := "43a375d8bdb676e1d691a40c490450861e16bb025d700510120f948cb020ec6d", func := "loop.example/g01203/laws.FnExactDifferIn", spec := "fnExactDifferIn", apart := false, narrowed := true }
def FnExactDifferInUptoSaid : Prop := fnExactDifferInUptoRow.holds Try.pinned (OpenSpec.upto fnExactDifferInSpec)

end Rows
end Go.Proofs.Ytfnifkffhfhfmaa
