/-
  No cell of these rows narrows 'for every input' (looked for: loops, veiled, ifaces, maps, wideKeys, modest, calm, conditions, laid).
  DERIVED. THE GIVEN ROWS OF THIS SEAT. 8 by the template 'for every input the law returns true; each argument reads behind the call as it read before'; 0 by the template 'total and deterministic' (their statements: YtjanphcfflahkaaTotals.lean).
  GIVEN WITH THE SEED: the statements are not yours to turn. If you find one false, say at which input.
  Laid BY PROGRAM, IN A SANDBOX (cutbox-rows.mjs): the forced cells as the released guide's own fill.sh prints them over the translation 5754b610529740a9… (all of the seat's roots in one cut). By AI agents, Wed Nov 11 2026. No macro, syntax, notation, axiom, sorry.
-/
import Derived.Test.YtjanphcfflahkaaChecked
import GoSem.Claim
import GoSem.ClaimJoined
import GoSem.ClaimMapViews
import Derived.JoinedTies
import Derived.KernelRfl
namespace Go.Proofs.Ytjanphcfflahkaa
/- THE CELL 'sum', in the pinned program and in every row, IS THE sha256 OF THE DUMP (.gsa) THAT YtjanphcfflahkaaProg.lean LOADS. Nothing in Lean hashes anything: it is a label: what it is worth is what the hold of that sum in a sandbox is worth. -/
noncomputable def Try.pinned : Pinned := { name := "ytjanphcfflahkaa", sum := "5754b610529740a99325f17d51a21c78d0da6014d423048055e9381845d270b5", checked := Try.checked }
namespace Rows
def none {H : Type} : Left H := { results := [], args := [] }

/-- 'laws.FnExactIsLine': WHATEVER THE INPUT: true; the input reads as it did. -/
def fnExactIsLineSpec : ChangeSpec := { name := "fnExactIsLine", fn := fun _ => fun
  | [d1, d2, d3] => { results := [.lit (.bool true)], args := [d1, d2, d3] }
  | _ => none }
def fnExactIsLineRow : OpenClaim := { program := "ytjanphcfflahkaa", sum := "5754b610529740a99325f17d51a21c78d0da6014d423048055e9381845d270b5", func := "loop.example/g01203/laws.FnExactIsLine", spec := "fnExactIsLine", unfollowed := true, recurses := true, apart := false }
def FnExactIsLineSaid : Prop := fnExactIsLineRow.holds Try.pinned (OpenSpec.ofChange fnExactIsLineSpec)

/-- ITS FALSE NEIGHBOUR: 'it returns false'. Refute it at one input. -/
def fnExactIsLineWrong : ChangeSpec := { name := "fnExactIsLine", fn := fun _ => fun
  | [d1, d2, d3] => { results := [.lit (.bool false)], args := [d1, d2, d3] }
  | _ => none }
def FnExactIsLineWrongFalsely : Prop := fnExactIsLineRow.holds Try.pinned (OpenSpec.ofChange fnExactIsLineWrong)

/-- 'laws.FnExactLineKind': WHATEVER THE INPUT: true; the input reads as it did. -/
def fnExactLineKindSpec : ChangeSpec := { name := "fnExactLineKind", fn := fun _ => fun
  | [d1, d2, d3] => { results := [.lit (.bool true)], args := [d1, d2, d3] }
  | _ => none }
def fnExactLineKindRow : OpenClaim := { program := "ytjanphcfflahkaa", sum := "5754b610529740a99325f17d51a21c78d0da6014d423048055e9381845d270b5", func := "loop.example/g01203/laws.FnExactLineKind", spec := "fnExactLineKind", unfollowed := true, recurses := true, apart := false }
def FnExactLineKindSaid : Prop := fnExactLineKindRow.holds Try.pinned (OpenSpec.ofChange fnExactLineKindSpec)

/-- ITS FALSE NEIGHBOUR: 'it returns false'. Refute it at one input. -/
def fnExactLineKindWrong : ChangeSpec := { name := "fnExactLineKind", fn := fun _ => fun
  | [d1, d2, d3] => { results := [.lit (.bool false)], args := [d1, d2, d3] }
  | _ => none }
def FnExactLineKindWrongFalsely : Prop := fnExactLineKindRow.holds Try.pinned (OpenSpec.ofChange fnExactLineKindWrong)

/-- 'laws.FnExactChanceLine': WHATEVER THE INPUT: true; the input reads as it did. -/
def fnExactChanceLineSpec : ChangeSpec := { name := "fnExactChanceLine", fn := fun _ => fun
  | [d] => { results := [.lit (.bool true)], args := [d] }
  | _ => none }
def fnExactChanceLineRow : OpenClaim := { program := "ytjanphcfflahkaa", sum := "5754b610529740a99325f17d51a21c78d0da6014d423048055e9381845d270b5", func := "loop.example/g01203/laws.FnExactChanceLine", spec := "fnExactChanceLine", unfollowed := true, recurses := true, apart := false }
def FnExactChanceLineSaid : Prop := fnExactChanceLineRow.holds Try.pinned (OpenSpec.ofChange fnExactChanceLineSpec)

/-- ITS FALSE NEIGHBOUR: 'it returns false'. Refute it at one input. -/
def fnExactChanceLineWrong : ChangeSpec := { name := "fnExactChanceLine", fn := fun _ => fun
  | [d] => { results := [.lit (.bool false)], args := [d] }
  | _ => none }
def FnExactChanceLineWrongFalsely : Prop := fnExactChanceLineRow.holds Try.pinned (OpenSpec.ofChange fnExactChanceLineWrong)

/-- 'laws.FnExactParseHand': WHATEVER THE INPUT: true; the input reads as it did. -/
def fnExactParseHandSpec : ChangeSpec := { name := "fnExactParseHand", fn := fun _ => fun
  | [d] => { results := [.lit (.bool true)], args := [d] }
  | _ => none }
def fnExactParseHandRow : OpenClaim := { program := "ytjanphcfflahkaa", sum := "5754b610529740a99325f17d51a21c78d0da6014d423048055e9381845d270b5", func := "loop.example/g01203/laws.FnExactParseHand", spec := "fnExactParseHand", unfollowed := true, recurses := true, apart := false }
def FnExactParseHandSaid : Prop := fnExactParseHandRow.holds Try.pinned (OpenSpec.ofChange fnExactParseHandSpec)

/-- ITS FALSE NEIGHBOUR: 'it returns false'. Refute it at one input. -/
def fnExactParseHandWrong : ChangeSpec := { name := "fnExactParseHand", fn := fun _ => fun
  | [d] => { results := [.lit (.bool false)], args := [d] }
  | _ => none }
def FnExactParseHandWrongFalsely : Prop := fnExactParseHandRow.holds Try.pinned (OpenSpec.ofChange fnExactParseHandWrong)

/-- 'laws.FnExactRankGame': WHATEVER THE INPUT: true; the input reads as it did. -/
def fnExactRankGameSpec : ChangeSpec := { name := "fnExactRankGame", fn := fun _ => fun
  | [d] => { results := [.lit (.bool true)], args := [d] }
  | _ => none }
def fnExactRankGameRow : OpenClaim := { program := "ytjanphcfflahkaa", sum := "5754b610529740a99325f17d51a21c78d0da6014d423048055e9381845d270b5", func := "loop.example/g01203/laws.FnExactRankGame", spec := "fnExactRankGame", unfollowed := true, recurses := true, apart := false }
def FnExactRankGameSaid : Prop := fnExactRankGameRow.holds Try.pinned (OpenSpec.ofChange fnExactRankGameSpec)

/-- ITS FALSE NEIGHBOUR: 'it returns false'. Refute it at one input. -/
def fnExactRankGameWrong : ChangeSpec := { name := "fnExactRankGame", fn := fun _ => fun
  | [d] => { results := [.lit (.bool false)], args := [d] }
  | _ => none }
def FnExactRankGameWrongFalsely : Prop := fnExactRankGameRow.holds Try.pinned (OpenSpec.ofChange fnExactRankGameWrong)

/-- 'laws.FnExactFirstMap': WHATEVER THE INPUT: true; the input reads as it did. -/
def fnExactFirstMapSpec : ChangeSpec := { name := "fnExactFirstMap", fn := fun _ => fun
  | [d1, d2] => { results := [.lit (.bool true)], args := [d1, d2] }
  | _ => none }
def fnExactFirstMapRow : OpenClaim := { program := "ytjanphcfflahkaa", sum := "5754b610529740a99325f17d51a21c78d0da6014d423048055e9381845d270b5", func := "loop.example/g01203/laws.FnExactFirstMap", spec := "fnExactFirstMap", inPlace := ["slices.overlaps[int]"], unfollowed := true, recurses := true, apart := false }
def FnExactFirstMapSaid : Prop := fnExactFirstMapRow.holds Try.pinned (OpenSpec.ofChange fnExactFirstMapSpec)

/-- ITS FALSE NEIGHBOUR: 'it returns false'. Refute it at one input. -/
def fnExactFirstMapWrong : ChangeSpec := { name := "fnExactFirstMap", fn := fun _ => fun
  | [d1, d2] => { results := [.lit (.bool false)], args := [d1, d2] }
  | _ => none }
def FnExactFirstMapWrongFalsely : Prop := fnExactFirstMapRow.holds Try.pinned (OpenSpec.ofChange fnExactFirstMapWrong)

/-- 'laws.FnExactAreAlike': WHATEVER THE INPUT: true; the input reads as it did. -/
def fnExactAreAlikeSpec : ChangeSpec := { name := "fnExactAreAlike", fn := fun _ => fun
  | [d1, d2] => { results := [.lit (.bool true)], args := [d1, d2] }
  | _ => none }
def fnExactAreAlikeRow : OpenClaim := { program := "ytjanphcfflahkaa", sum := "5754b610529740a99325f17d51a21c78d0da6014d423048055e9381845d270b5", func := "loop.example/g01203/laws.FnExactAreAlike", spec := "fnExactAreAlike", inPlace := ["slices.overlaps[int]"], unfollowed := true, recurses := true, apart := false }
def FnExactAreAlikeSaid : Prop := fnExactAreAlikeRow.holds Try.pinned (OpenSpec.ofChange fnExactAreAlikeSpec)

/-- ITS FALSE NEIGHBOUR: 'it returns false'. Refute it at one input. -/
def fnExactAreAlikeWrong : ChangeSpec := { name := "fnExactAreAlike", fn := fun _ => fun
  | [d1, d2] => { results := [.lit (.bool false)], args := [d1, d2] }
  | _ => none }
def FnExactAreAlikeWrongFalsely : Prop := fnExactAreAlikeRow.holds Try.pinned (OpenSpec.ofChange fnExactAreAlikeWrong)

/-- 'laws.FnExactFirstLook': WHATEVER THE INPUT: true; the input reads as it did. -/
def fnExactFirstLookSpec : ChangeSpec := { name := "fnExactFirstLook", fn := fun _ => fun
  | [d] => { results := [.lit (.bool true)], args := [d] }
  | _ => none }
def fnExactFirstLookRow : OpenClaim := { program := "ytjanphcfflahkaa", sum := "5754b610529740a99325f17d51a21c78d0da6014d423048055e9381845d270b5", func := "loop.example/g01203/laws.FnExactFirstLook", spec := "fnExactFirstLook", inPlace := ["slices.overlaps[int]"], unfollowed := true, recurses := true, apart := false }
def FnExactFirstLookSaid : Prop := fnExactFirstLookRow.holds Try.pinned (OpenSpec.ofChange fnExactFirstLookSpec)

/-- ITS FALSE NEIGHBOUR: 'it returns false'. Refute it at one input. -/
def fnExactFirstLookWrong : ChangeSpec := { name := "fnExactFirstLook", fn := fun _ => fun
  | [d] => { results := [.lit (.bool false)], args := [d] }
  | _ => none }
def FnExactFirstLookWrongFalsely : Prop := fnExactFirstLookRow.holds Try.pinned (OpenSpec.ofChange fnExactFirstLookWrong)

/- THE SECOND FORM. 'bulk': how many values and letters a reading holds, each counted each time it is reached (what is shared counts as often as it is met; a slice's spare places count too). A statement '..UptoSaid' is the law's where the arguments, and the package variables that the reading takes, are together of bulk at most 1048576: NARROWER than '..Said'. Prove '..Said' where nothing that the law and all that it calls make is longer than what came in: it says more and counts as full. Else prove '..UptoSaid'. A law counts once. -/
mutual
def uptoBulk {H : Type} : DataW H → Nat
  | .lit (.string bytes) => bytes.length + 1
  | .lit _ => 1
  | .nil => 1
  | .ptr d => uptoBulk d + 1
  | .slice elems spare => uptoBulkAll elems + uptoBulkAll spare + 1
  | .agg parts => uptoBulkAll parts + 1
  | .iface _ d => uptoBulk d + 1
  | .map entries => uptoBulkEntries entries + 1
  | .held _ => 1
def uptoBulkAll {H : Type} : List (DataW H) → Nat
  | [] => 0
  | d :: r => uptoBulk d + uptoBulkAll r
def uptoBulkEntries {H : Type} : List (Lit × DataW H) → Nat
  | [] => 0
  | x :: r => uptoBulkEntry x + uptoBulkEntries r
def uptoBulkEntry {H : Type} : Lit × DataW H → Nat
  | (.string bytes, d) => bytes.length + uptoBulk d + 1
  | (_, d) => uptoBulk d + 1
 end
def uptoSmall : (H : Type) → List (DataW H) → Bool := fun _ ds => decide (uptoBulkAll ds ≤ 1048576)
def OpenSpec.upto (s : _root_.Go.ChangeSpec) : _root_.Go.OpenSpec := { _root_.Go.OpenSpec.ofChange s with cond := some uptoSmall }

/-- 'laws.FnExactIsLine', WHERE WHAT IT READS IS OF BULK AT MOST 1048576: true; the input reads as it did. -/
def fnExactIsLineUptoRow : OpenClaim := { program := "ytjanphcfflahkaa", sum := "5754b610529740a99325f17d51a21c78d0da6014d423048055e9381845d270b5", func := "loop.example/g01203/laws.FnExactIsLine", spec := "fnExactIsLine", unfollowed := true, recurses := true, apart := false, narrowed := true }
def FnExactIsLineUptoSaid : Prop := fnExactIsLineUptoRow.holds Try.pinned (OpenSpec.upto fnExactIsLineSpec)

/-- 'laws.FnExactLineKind', WHERE WHAT IT READS IS OF BULK AT MOST 1048576: true; the input reads as it did. -/
def fnExactLineKindUptoRow : OpenClaim := { program := "ytjanphcfflahkaa", sum := "5754b610529740a99325f17d51a21c78d0da6014d423048055e9381845d270b5", func := "loop.example/g01203/laws.FnExactLineKind", spec := "fnExactLineKind", unfollowed := true, recurses := true, apart := false, narrowed := true }
def FnExactLineKindUptoSaid : Prop := fnExactLineKindUptoRow.holds Try.pinned (OpenSpec.upto fnExactLineKindSpec)

/-- 'laws.FnExactChanceLine', WHERE WHAT IT READS IS OF BULK AT MOST 1048576: true; the input reads as it did. -/
def fnExactChanceLineUptoRow : OpenClaim := { program := "ytjanphcfflahkaa", sum := "5754b610529740a99325f17d51a21c78d0da6014d423048055e9381845d270b5", func := "loop.example/g01203/laws.FnExactChanceLine", spec := "fnExactChanceLine", unfollowed := true, recurses := true, apart := false, narrowed := true }
def FnExactChanceLineUptoSaid : Prop := fnExactChanceLineUptoRow.holds Try.pinned (OpenSpec.upto fnExactChanceLineSpec)

/-- 'laws.FnExactParseHand', WHERE WHAT IT READS IS OF BULK AT MOST 1048576: true; the input reads as it did. -/
def fnExactParseHandUptoRow : OpenClaim := { program := "ytjanphcfflahkaa", sum := "5754b610529740a99325f17d51a21c78d0da6014d423048055e9381845d270b5", func := "loop.example/g01203/laws.FnExactParseHand", spec := "fnExactParseHand", unfollowed := true, recurses := true, apart := false, narrowed := true }
def FnExactParseHandUptoSaid : Prop := fnExactParseHandUptoRow.holds Try.pinned (OpenSpec.upto fnExactParseHandSpec)

/-- 'laws.FnExactRankGame', WHERE WHAT IT READS IS OF BULK AT MOST 1048576: true; the input reads as it did. -/
def fnExactRankGameUptoRow : OpenClaim := { program := "ytjanphcfflahkaa", sum := "5754b610529740a99325f17d51a21c78d0da6014d423048055e9381845d270b5", func := "loop.example/g01203/laws.FnExactRankGame", spec := "fnExactRankGame", unfollowed := true, recurses := true, apart := false, narrowed := true }
def FnExactRankGameUptoSaid : Prop := fnExactRankGameUptoRow.holds Try.pinned (OpenSpec.upto fnExactRankGameSpec)

/-- 'laws.FnExactFirstMap', WHERE WHAT IT READS IS OF BULK AT MOST 1048576: true; the input reads as it did. -/
def fnExactFirstMapUptoRow : OpenClaim := { program := "ytjanphcfflahkaa", sum := "5754b610529740a99325f17d51a21c78d0da6014d423048055e9381845d270b5", func := "loop.example/g01203/laws.FnExactFirstMap", spec := "fnExactFirstMap", inPlace := ["slices.overlaps[int]"], unfollowed := true, recurses := true, apart := false, narrowed := true }
def FnExactFirstMapUptoSaid : Prop := fnExactFirstMapUptoRow.holds Try.pinned (OpenSpec.upto fnExactFirstMapSpec)

/-- 'laws.FnExactAreAlike', WHERE WHAT IT READS IS OF BULK AT MOST 1048576: true; the input reads as it did. -/
def fnExactAreAlikeUptoRow : OpenClaim := { program := "ytjanphcfflahkaa", sum := "5754b610529740a99325f17d51a21c78d0da6014d423048055e9381845d270b5", func := "loop.example/g01203/laws.FnExactAreAlike", spec := "fnExactAreAlike", inPlace := ["slices.overlaps[int]"], unfollowed := true, recurses := true, apart := false, narrowed := true }
def FnExactAreAlikeUptoSaid : Prop := fnExactAreAlikeUptoRow.holds Try.pinned (OpenSpec.upto fnExactAreAlikeSpec)

/-- 'laws.FnExactFirstLook', WHERE WHAT IT READS IS OF BULK AT MOST 1048576: true; the input reads as it did. -/
def fnExactFirstLookUptoRow : OpenClaim := { program := "ytjanphcfflahkaa", sum := "5754b610529740a99325f17d51a21c78d0da6014d423048055e9381845d270b5", func := "loop.example/g01203/laws.FnExactFirstLook", spec := "fnExactFirstLook", inPlace := ["slices.overlaps[int]"], unfollowed := true, recurses := true, apart := false, narrowed := true }
def FnExactFirstLookUptoSaid : Prop := fnExactFirstLookUptoRow.holds Try.pinned (OpenSpec.upto fnExactFirstLookSpec)

end Rows
end Go.Proofs.Ytjanphcfflahkaa
