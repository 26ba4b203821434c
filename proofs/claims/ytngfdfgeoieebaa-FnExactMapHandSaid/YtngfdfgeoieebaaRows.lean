/-
  No cell of these rows narrows 'for every input' (looked for: loops, veiled, ifaces, maps, wideKeys, modest, calm, conditions, laid).
  DERIVED. THE GIVEN ROWS OF THIS SEAT. 13 by the template 'for every input the law returns true; each argument reads behind the call as it read before'; 0 by the template 'total and deterministic' (their statements: YtngfdfgeoieebaaTotals.lean).
  GIVEN WITH THE SEED: the statements are not yours to turn. If you find one false, say at which input.
  Laid BY PROGRAM, IN A SANDBOX (cutbox-rows.mjs): the forced cells as the released guide's own fill.sh prints them over the translation 28105169adb5b7a8… (all of the seat's roots in one cut). By AI agents, Wed Nov 11 2026. No macro, syntax, notation, axiom, sorry.
-/
import Derived.Test.YtngfdfgeoieebaaChecked
import GoSem.Claim
import GoSem.ClaimJoined
import GoSem.ClaimMapViews
import Derived.JoinedTies
import Derived.KernelRfl
namespace Go.Proofs.Ytngfdfgeoieebaa
/- THE CELL 'sum', in the pinned program and in every row, IS THE sha256 OF THE DUMP (.gsa) THAT YtngfdfgeoieebaaProg.lean LOADS. Nothing in Lean hashes anything: it is a label: what it is worth is what the hold of that sum in a sandbox is worth. -/
noncomputable def Try.pinned : Pinned := { name := "ytngfdfgeoieebaa", sum := "28105169adb5b7a8e1617de539ccffc2678b6fa078fdb6b176020ed13dfcb548", checked := Try.checked }
namespace Rows
def none {H : Type} : Left H := { results := [], args := [] }

/-- 'laws.FnExactIsMap': WHATEVER THE INPUT: true; the input reads as it did. -/
def fnExactIsMapSpec : ChangeSpec := { name := "fnExactIsMap", fn := fun _ => fun
  | [d] => { results := [.lit (.bool true)], args := [d] }
  | _ => none }
def fnExactIsMapRow : OpenClaim := { program := "ytngfdfgeoieebaa", sum := "28105169adb5b7a8e1617de539ccffc2678b6fa078fdb6b176020ed13dfcb548", func := "loop.example/g01203/laws.FnExactIsMap", spec := "fnExactIsMap", apart := false }
def FnExactIsMapSaid : Prop := fnExactIsMapRow.holds Try.pinned (OpenSpec.ofChange fnExactIsMapSpec)

/-- ITS FALSE NEIGHBOUR: 'it returns false'. Refute it at one input. -/
def fnExactIsMapWrong : ChangeSpec := { name := "fnExactIsMap", fn := fun _ => fun
  | [d] => { results := [.lit (.bool false)], args := [d] }
  | _ => none }
def FnExactIsMapWrongFalsely : Prop := fnExactIsMapRow.holds Try.pinned (OpenSpec.ofChange fnExactIsMapWrong)

/-- 'laws.FnExactMapCard': WHATEVER THE INPUT: true; the input reads as it did. -/
def fnExactMapCardSpec : ChangeSpec := { name := "fnExactMapCard", fn := fun _ => fun
  | [d1, d2] => { results := [.lit (.bool true)], args := [d1, d2] }
  | _ => none }
def fnExactMapCardRow : OpenClaim := { program := "ytngfdfgeoieebaa", sum := "28105169adb5b7a8e1617de539ccffc2678b6fa078fdb6b176020ed13dfcb548", func := "loop.example/g01203/laws.FnExactMapCard", spec := "fnExactMapCard", apart := false }
def FnExactMapCardSaid : Prop := fnExactMapCardRow.holds Try.pinned (OpenSpec.ofChange fnExactMapCardSpec)

/-- ITS FALSE NEIGHBOUR: 'it returns false'. Refute it at one input. -/
def fnExactMapCardWrong : ChangeSpec := { name := "fnExactMapCard", fn := fun _ => fun
  | [d1, d2] => { results := [.lit (.bool false)], args := [d1, d2] }
  | _ => none }
def FnExactMapCardWrongFalsely : Prop := fnExactMapCardRow.holds Try.pinned (OpenSpec.ofChange fnExactMapCardWrong)

/-- 'laws.FnExactMapHand': WHATEVER THE INPUT: true; the input reads as it did. -/
def fnExactMapHandSpec : ChangeSpec := { name := "fnExactMapHand", fn := fun _ => fun
  | [d1, d2] => { results := [.lit (.bool true)], args := [d1, d2] }
  | _ => none }
def fnExactMapHandRow : OpenClaim := { program := "ytngfdfgeoieebaa", sum := "28105169adb5b7a8e1617de539ccffc2678b6fa078fdb6b176020ed13dfcb548", func := "loop.example/g01203/laws.FnExactMapHand", spec := "fnExactMapHand", unfollowed := true, recurses := true, apart := false }
def FnExactMapHandSaid : Prop := fnExactMapHandRow.holds Try.pinned (OpenSpec.ofChange fnExactMapHandSpec)

/-- ITS FALSE NEIGHBOUR: 'it returns false'. Refute it at one input. -/
def fnExactMapHandWrong : ChangeSpec := { name := "fnExactMapHand", fn := fun _ => fun
  | [d1, d2] => { results := [.lit (.bool false)], args := [d1, d2] }
  | _ => none }
def FnExactMapHandWrongFalsely : Prop := fnExactMapHandRow.holds Try.pinned (OpenSpec.ofChange fnExactMapHandWrong)

/-- 'laws.FnExactMapBehind': WHATEVER THE INPUT: true; the input reads as it did. -/
def fnExactMapBehindSpec : ChangeSpec := { name := "fnExactMapBehind", fn := fun _ => fun
  | [d1, d2] => { results := [.lit (.bool true)], args := [d1, d2] }
  | _ => none }
def fnExactMapBehindRow : OpenClaim := { program := "ytngfdfgeoieebaa", sum := "28105169adb5b7a8e1617de539ccffc2678b6fa078fdb6b176020ed13dfcb548", func := "loop.example/g01203/laws.FnExactMapBehind", spec := "fnExactMapBehind", apart := false }
def FnExactMapBehindSaid : Prop := fnExactMapBehindRow.holds Try.pinned (OpenSpec.ofChange fnExactMapBehindSpec)

/-- ITS FALSE NEIGHBOUR: 'it returns false'. Refute it at one input. -/
def fnExactMapBehindWrong : ChangeSpec := { name := "fnExactMapBehind", fn := fun _ => fun
  | [d1, d2] => { results := [.lit (.bool false)], args := [d1, d2] }
  | _ => none }
def FnExactMapBehindWrongFalsely : Prop := fnExactMapBehindRow.holds Try.pinned (OpenSpec.ofChange fnExactMapBehindWrong)

/-- 'laws.FnExactMapBack': WHATEVER THE INPUT: true; the input reads as it did. -/
def fnExactMapBackSpec : ChangeSpec := { name := "fnExactMapBack", fn := fun _ => fun
  | [d] => { results := [.lit (.bool true)], args := [d] }
  | _ => none }
def fnExactMapBackRow : OpenClaim := { program := "ytngfdfgeoieebaa", sum := "28105169adb5b7a8e1617de539ccffc2678b6fa078fdb6b176020ed13dfcb548", func := "loop.example/g01203/laws.FnExactMapBack", spec := "fnExactMapBack", apart := false }
def FnExactMapBackSaid : Prop := fnExactMapBackRow.holds Try.pinned (OpenSpec.ofChange fnExactMapBackSpec)

/-- ITS FALSE NEIGHBOUR: 'it returns false'. Refute it at one input. -/
def fnExactMapBackWrong : ChangeSpec := { name := "fnExactMapBack", fn := fun _ => fun
  | [d] => { results := [.lit (.bool false)], args := [d] }
  | _ => none }
def FnExactMapBackWrongFalsely : Prop := fnExactMapBackRow.holds Try.pinned (OpenSpec.ofChange fnExactMapBackWrong)

/-- 'laws.FnExactShiftTo': WHATEVER THE INPUT: true; the input reads as it did. -/
def fnExactShiftToSpec : ChangeSpec := { name := "fnExactShiftTo", fn := fun _ => fun
  | [d1, d2] => { results := [.lit (.bool true)], args := [d1, d2] }
  | _ => none }
def fnExactShiftToRow : OpenClaim := { program := "ytngfdfgeoieebaa", sum := "28105169adb5b7a8e1617de539ccffc2678b6fa078fdb6b176020ed13dfcb548", func := "loop.example/g01203/laws.FnExactShiftTo", spec := "fnExactShiftTo", apart := false }
def FnExactShiftToSaid : Prop := fnExactShiftToRow.holds Try.pinned (OpenSpec.ofChange fnExactShiftToSpec)

/-- ITS FALSE NEIGHBOUR: 'it returns false'. Refute it at one input. -/
def fnExactShiftToWrong : ChangeSpec := { name := "fnExactShiftTo", fn := fun _ => fun
  | [d1, d2] => { results := [.lit (.bool false)], args := [d1, d2] }
  | _ => none }
def FnExactShiftToWrongFalsely : Prop := fnExactShiftToRow.holds Try.pinned (OpenSpec.ofChange fnExactShiftToWrong)

/-- 'laws.FnExactFixedCards': WHATEVER THE INPUT: true; the input reads as it did. -/
def fnExactFixedCardsSpec : ChangeSpec := { name := "fnExactFixedCards", fn := fun _ => fun
  | [d] => { results := [.lit (.bool true)], args := [d] }
  | _ => none }
def fnExactFixedCardsRow : OpenClaim := { program := "ytngfdfgeoieebaa", sum := "28105169adb5b7a8e1617de539ccffc2678b6fa078fdb6b176020ed13dfcb548", func := "loop.example/g01203/laws.FnExactFixedCards", spec := "fnExactFixedCards", unfollowed := true, recurses := true, apart := false }
def FnExactFixedCardsSaid : Prop := fnExactFixedCardsRow.holds Try.pinned (OpenSpec.ofChange fnExactFixedCardsSpec)

/-- ITS FALSE NEIGHBOUR: 'it returns false'. Refute it at one input. -/
def fnExactFixedCardsWrong : ChangeSpec := { name := "fnExactFixedCards", fn := fun _ => fun
  | [d] => { results := [.lit (.bool false)], args := [d] }
  | _ => none }
def FnExactFixedCardsWrongFalsely : Prop := fnExactFixedCardsRow.holds Try.pinned (OpenSpec.ofChange fnExactFixedCardsWrong)

/-- 'laws.FnExactMapOrder': WHATEVER THE INPUT: true; the input reads as it did. -/
def fnExactMapOrderSpec : ChangeSpec := { name := "fnExactMapOrder", fn := fun _ => fun
  | [d] => { results := [.lit (.bool true)], args := [d] }
  | _ => none }
def fnExactMapOrderRow : OpenClaim := { program := "ytngfdfgeoieebaa", sum := "28105169adb5b7a8e1617de539ccffc2678b6fa078fdb6b176020ed13dfcb548", func := "loop.example/g01203/laws.FnExactMapOrder", spec := "fnExactMapOrder", unfollowed := true, recurses := true, apart := false }
def FnExactMapOrderSaid : Prop := fnExactMapOrderRow.holds Try.pinned (OpenSpec.ofChange fnExactMapOrderSpec)

/-- ITS FALSE NEIGHBOUR: 'it returns false'. Refute it at one input. -/
def fnExactMapOrderWrong : ChangeSpec := { name := "fnExactMapOrder", fn := fun _ => fun
  | [d] => { results := [.lit (.bool false)], args := [d] }
  | _ => none }
def FnExactMapOrderWrongFalsely : Prop := fnExactMapOrderRow.holds Try.pinned (OpenSpec.ofChange fnExactMapOrderWrong)

/-- 'laws.FnExactOrbitOf': WHATEVER THE INPUT: true; the input reads as it did. -/
def fnExactOrbitOfSpec : ChangeSpec := { name := "fnExactOrbitOf", fn := fun _ => fun
  | [d1, d2] => { results := [.lit (.bool true)], args := [d1, d2] }
  | _ => none }
def fnExactOrbitOfRow : OpenClaim := { program := "ytngfdfgeoieebaa", sum := "28105169adb5b7a8e1617de539ccffc2678b6fa078fdb6b176020ed13dfcb548", func := "loop.example/g01203/laws.FnExactOrbitOf", spec := "fnExactOrbitOf", unfollowed := true, recurses := true, apart := false }
def FnExactOrbitOfSaid : Prop := fnExactOrbitOfRow.holds Try.pinned (OpenSpec.ofChange fnExactOrbitOfSpec)

/-- ITS FALSE NEIGHBOUR: 'it returns false'. Refute it at one input. -/
def fnExactOrbitOfWrong : ChangeSpec := { name := "fnExactOrbitOf", fn := fun _ => fun
  | [d1, d2] => { results := [.lit (.bool false)], args := [d1, d2] }
  | _ => none }
def FnExactOrbitOfWrongFalsely : Prop := fnExactOrbitOfRow.holds Try.pinned (OpenSpec.ofChange fnExactOrbitOfWrong)

/-- 'laws.FnExactCycleCounts': WHATEVER THE INPUT: true; the input reads as it did. -/
def fnExactCycleCountsSpec : ChangeSpec := { name := "fnExactCycleCounts", fn := fun _ => fun
  | [d] => { results := [.lit (.bool true)], args := [d] }
  | _ => none }
def fnExactCycleCountsRow : OpenClaim := { program := "ytngfdfgeoieebaa", sum := "28105169adb5b7a8e1617de539ccffc2678b6fa078fdb6b176020ed13dfcb548", func := "loop.example/g01203/laws.FnExactCycleCounts", spec := "fnExactCycleCounts", unfollowed := true, recurses := true, apart := false }
def FnExactCycleCountsSaid : Prop := fnExactCycleCountsRow.holds Try.pinned (OpenSpec.ofChange fnExactCycleCountsSpec)

/-- ITS FALSE NEIGHBOUR: 'it returns false'. Refute it at one input. -/
def fnExactCycleCountsWrong : ChangeSpec := { name := "fnExactCycleCounts", fn := fun _ => fun
  | [d] => { results := [.lit (.bool false)], args := [d] }
  | _ => none }
def FnExactCycleCountsWrongFalsely : Prop := fnExactCycleCountsRow.holds Try.pinned (OpenSpec.ofChange fnExactCycleCountsWrong)

/-- 'laws.FnExactAreAlike': WHATEVER THE INPUT: true; the input reads as it did. -/
def fnExactAreAlikeSpec : ChangeSpec := { name := "fnExactAreAlike", fn := fun _ => fun
  | [d1, d2] => { results := [.lit (.bool true)], args := [d1, d2] }
  | _ => none }
def fnExactAreAlikeRow : OpenClaim := { program := "ytngfdfgeoieebaa", sum := "28105169adb5b7a8e1617de539ccffc2678b6fa078fdb6b176020ed13dfcb548", func := "loop.example/g01203/laws.FnExactAreAlike", spec := "fnExactAreAlike", inPlace := ["slices.overlaps[int]"], unfollowed := true, recurses := true, apart := false }
def FnExactAreAlikeSaid : Prop := fnExactAreAlikeRow.holds Try.pinned (OpenSpec.ofChange fnExactAreAlikeSpec)

/-- ITS FALSE NEIGHBOUR: 'it returns false'. Refute it at one input. -/
def fnExactAreAlikeWrong : ChangeSpec := { name := "fnExactAreAlike", fn := fun _ => fun
  | [d1, d2] => { results := [.lit (.bool false)], args := [d1, d2] }
  | _ => none }
def FnExactAreAlikeWrongFalsely : Prop := fnExactAreAlikeRow.holds Try.pinned (OpenSpec.ofChange fnExactAreAlikeWrong)

/-- 'laws.FnExactFirstMap': WHATEVER THE INPUT: true; the input reads as it did. -/
def fnExactFirstMapSpec : ChangeSpec := { name := "fnExactFirstMap", fn := fun _ => fun
  | [d1, d2] => { results := [.lit (.bool true)], args := [d1, d2] }
  | _ => none }
def fnExactFirstMapRow : OpenClaim := { program := "ytngfdfgeoieebaa", sum := "28105169adb5b7a8e1617de539ccffc2678b6fa078fdb6b176020ed13dfcb548", func := "loop.example/g01203/laws.FnExactFirstMap", spec := "fnExactFirstMap", inPlace := ["slices.overlaps[int]"], unfollowed := true, recurses := true, apart := false }
def FnExactFirstMapSaid : Prop := fnExactFirstMapRow.holds Try.pinned (OpenSpec.ofChange fnExactFirstMapSpec)

/-- ITS FALSE NEIGHBOUR: 'it returns false'. Refute it at one input. -/
def fnExactFirstMapWrong : ChangeSpec := { name := "fnExactFirstMap", fn := fun _ => fun
  | [d1, d2] => { results := [.lit (.bool false)], args := [d1, d2] }
  | _ => none }
def FnExactFirstMapWrongFalsely : Prop := fnExactFirstMapRow.holds Try.pinned (OpenSpec.ofChange fnExactFirstMapWrong)

/-- 'laws.FnExactFirstLook': WHATEVER THE INPUT: true; the input reads as it did. -/
def fnExactFirstLookSpec : ChangeSpec := { name := "fnExactFirstLook", fn := fun _ => fun
  | [d] => { results := [.lit (.bool true)], args := [d] }
  | _ => none }
def fnExactFirstLookRow : OpenClaim := { program := "ytngfdfgeoieebaa", sum := "28105169adb5b7a8e1617de539ccffc2678b6fa078fdb6b176020ed13dfcb548", func := "loop.example/g01203/laws.FnExactFirstLook", spec := "fnExactFirstLook", inPlace := ["slices.overlaps[int]"], unfollowed := true, recurses := true, apart := false }
def FnExactFirstLookSaid : Prop := fnExactFirstLookRow.holds Try.pinned (OpenSpec.ofChange fnExactFirstLookSpec)

/-- ITS FALSE NEIGHBOUR: 'it returns false'. Refute it at one input. -/
def fnExactFirstLookWrong : ChangeSpec := { name := "fnExactFirstLook", fn := fun _ => fun
  | [d] => { results := [.lit (.bool false)], args := [d] }
  | _ => none }
def FnExactFirstLookWrongFalsely : Prop := fnExactFirstLookRow.holds Try.pinned (OpenSpec.ofChange fnExactFirstLookWrong)

/- THE SECOND FORM. 'bulk': how many values and letters a reading holds, each counted each time it is reached (what is shared counts as often as it is met; a slice's spare places count too). A statement '..UptoSaid' is the law's where the arguments, and the package variables that the reading takes, are together of bulk at most 1048576: NARROWER than '..Said'. Prove '..Said' where nothing that the law and all that it calls make is longer than what came in: it says more and counts as full. Else prove '..UptoSaid'. A law counts once. -/
mutual
def uptoBulk {H : Type} : DataW H → Nat
  | .lit (.string bytes) => bytes.length + 1
  | .lit _ => 1
  | .nil => 1
  | .ptr d => uptoBulk d + 1
  | .slice elems spare => uptoBulkAll elems + uptoBulkAll spare + 1
  | .agg parts => uptoBulkAll parts + 1
  | .iface _ d => uptoBulk d + 1
  | .map entries => uptoBulkEntries entries + 1
  | .held _ => 1
def uptoBulkAll {H : Type} : List (DataW H) → Nat
  | [] => 0
  | d :: r => uptoBulk d + uptoBulkAll r
def uptoBulkEntries {H : Type} : List (Lit × DataW H) → Nat
  | [] => 0
  | x :: r => uptoBulkEntry x + uptoBulkEntries r
def uptoBulkEntry {H : Type} : Lit × DataW H → Nat
  | (.string bytes, d) => bytes.length + uptoBulk d + 1
  | (_, d) => uptoBulk d + 1
 end
def uptoSmall : (H : Type) → List (DataW H) → Bool := fun _ ds => decide (uptoBulkAll ds ≤ 1048576)
def OpenSpec.upto (s : _root_.Go.ChangeSpec) : _root_.Go.OpenSpec := { _root_.Go.OpenSpec.ofChange s with cond := some uptoSmall }

/-- 'laws.FnExactIsMap', WHERE WHAT IT READS IS OF BULK AT MOST 1048576: true; the input reads as it did. -/
def fnExactIsMapUptoRow : OpenClaim := { program := "ytngfdfgeoieebaa", sum := "28105169adb5b7a8e1617de539ccffc2678b6fa078fdb6b176020ed13dfcb548", func := "loop.example/g01203/laws.FnExactIsMap", spec := "fnExactIsMap", apart := false, narrowed := true }
def FnExactIsMapUptoSaid : Prop := fnExactIsMapUptoRow.holds Try.pinned (OpenSpec.upto fnExactIsMapSpec)

/-- 'laws.FnExactMapCard', WHERE WHAT IT READS IS OF BULK AT MOST 1048576: true; the input reads as it did. -/
def fnExactMapCardUptoRow : OpenClaim := { program := "ytngfdfgeoieebaa", sum := "28105169adb5b7a8e1617de539ccffc2678b6fa078fdb6b176020ed13dfcb548", func := "loop.example/g01203/laws.FnExactMapCard", spec := "fnExactMapCard", apart := false, narrowed := true }
def FnExactMapCardUptoSaid : Prop := fnExactMapCardUptoRow.holds Try.pinned (OpenSpec.upto fnExactMapCardSpec)

/-- 'laws.FnExactMapHand', WHERE WHAT IT READS IS OF BULK AT MOST 1048576: true; the input reads as it did. -/
def fnExactMapHandUptoRow : OpenClaim := { program := "ytngfdfgeoieebaa", sum := "28105169adb5b7a8e1617de539ccffc2678b6fa078fdb6b176020ed13dfcb548", func := "loop.example/g01203/laws.FnExactMapHand", spec := "fnExactMapHand", unfollowed := true, recurses := true, apart := false, narrowed := true }
def FnExactMapHandUptoSaid : Prop := fnExactMapHandUptoRow.holds Try.pinned (OpenSpec.upto fnExactMapHandSpec)

/-- 'laws.FnExactMapBehind', WHERE WHAT IT READS IS OF BULK AT MOST 1048576: true; the input reads as it did. -/
def fnExactMapBehindUptoRow : OpenClaim := { program := "ytngfdfgeoieebaa", sum := "28105169adb5b7a8e1617de539ccffc2678b6fa078fdb6b176020ed13dfcb548", func := "loop.example/g01203/laws.FnExactMapBehind", spec := "fnExactMapBehind", apart := false, narrowed := true }
def FnExactMapBehindUptoSaid : Prop := fnExactMapBehindUptoRow.holds Try.pinned (OpenSpec.upto fnExactMapBehindSpec)

/-- 'laws.FnExactMapBack', WHERE WHAT IT READS IS OF BULK AT MOST 1048576: true; the input reads as it did. -/
def fnExactMapBackUptoRow : OpenClaim := { program := "ytngfdfgeoieebaa", sum := "28105169adb5b7a8e1617de539ccffc2678b6fa078fdb6b176020ed13dfcb548", func := "loop.example/g01203/laws.FnExactMapBack", spec := "fnExactMapBack", apart := false, narrowed := true }
def FnExactMapBackUptoSaid : Prop := fnExactMapBackUptoRow.holds Try.pinned (OpenSpec.upto fnExactMapBackSpec)

/-- 'laws.FnExactShiftTo', WHERE WHAT IT READS IS OF BULK AT MOST 1048576: true; the input reads as it did. -/
def fnExactShiftToUptoRow : OpenClaim := { program := "ytngfdfgeoieebaa", sum := "28105169adb5b7a8e1617de539ccffc2678b6fa078fdb6b176020ed13dfcb548", func := "loop.example/g01203/laws.FnExactShiftTo", spec := "fnExactShiftTo", apart := false, narrowed := true }
def FnExactShiftToUptoSaid : Prop := fnExactShiftToUptoRow.holds Try.pinned (OpenSpec.upto fnExactShiftToSpec)

/-- 'laws.FnExactFixedCards', WHERE WHAT IT READS IS OF BULK AT MOST 1048576: true; the input reads as it did. -/
def fnExactFixedCardsUptoRow : OpenClaim := { program := "ytngfdfgeoieebaa", sum := "28105169adb5b7a8e1617de539ccffc2678b6fa078fdb6b176020ed13dfcb548", func := "loop.example/g01203/laws.FnExactFixedCards", spec := "fnExactFixedCards", unfollowed := true, recurses := true, apart := false, narrowed := true }
def FnExactFixedCardsUptoSaid : Prop := fnExactFixedCardsUptoRow.holds Try.pinned (OpenSpec.upto fnExactFixedCardsSpec)

/-- 'laws.FnExactMapOrder', WHERE WHAT IT READS IS OF BULK AT MOST 1048576: true; the input reads as it did. -/
def fnExactMapOrderUptoRow : OpenClaim := { program := "ytngfdfgeoieebaa", sum := "28105169adb5b7a8e1617de539ccffc2678b6fa078fdb6b176020ed13dfcb548", func := "loop.example/g01203/laws.FnExactMapOrder", spec := "fnExactMapOrder", unfollowed := true, recurses := true, apart := false, narrowed := true }
def FnExactMapOrderUptoSaid : Prop := fnExactMapOrderUptoRow.holds Try.pinned (OpenSpec.upto fnExactMapOrderSpec)

/-- 'laws.FnExactOrbitOf', WHERE WHAT IT READS IS OF BULK AT MOST 1048576: true; the input reads as it did. -/
def fnExactOrbitOfUptoRow : OpenClaim := { program := "ytngfdfgeoieebaa", sum := "28105169adb5b7a8e1617de539ccffc2678b6fa078fdb6b176020ed13dfcb548", func := "loop.example/g01203/laws.FnExactOrbitOf", spec := "fnExactOrbitOf", unfollowed := true, recurses := true, apart := false, narrowed := true }
def FnExactOrbitOfUptoSaid : Prop := fnExactOrbitOfUptoRow.holds Try.pinned (OpenSpec.upto fnExactOrbitOfSpec)

/-- 'laws.FnExactCycleCounts', WHERE WHAT IT READS IS OF BULK AT MOST 1048576: true; the input reads as it did. -/
def fnExactCycleCountsUptoRow : OpenClaim := { program := "ytngfdfgeoieebaa", sum := "28105169adb5b7a8e1617de539ccffc2678b6fa078fdb6b176020ed13dfcb548", func := "loop.example/g01203/laws.FnExactCycleCounts", spec := "fnExactCycleCounts", unfollowed := true, recurses := true, apart := false, narrowed := true }
def FnExactCycleCountsUptoSaid : Prop := fnExactCycleCountsUptoRow.holds Try.pinned (OpenSpec.upto fnExactCycleCountsSpec)

/-- 'laws.FnExactAreAlike', WHERE WHAT IT READS IS OF BULK AT MOST 1048576: true; the input reads as it did. -/
def fnExactAreAlikeUptoRow : OpenClaim := { program := "ytngfdfgeoieebaa", sum := "28105169adb5b7a8e1617de539ccffc2678b6fa078fdb6b176020ed13dfcb548", func := "loop.example/g01203/laws.FnExactAreAlike", spec := "fnExactAreAlike", inPlace := ["slices.overlaps[int]"], unfollowed := true, recurses := true, apart := false, narrowed := true }
def FnExactAreAlikeUptoSaid : Prop := fnExactAreAlikeUptoRow.holds Try.pinned (OpenSpec.upto fnExactAreAlikeSpec)

/-- 'laws.FnExactFirstMap', WHERE WHAT IT READS IS OF BULK AT MOST 1048576: true; the input reads as it did. -/
def fnExactFirstMapUptoRow : OpenClaim := { program := "ytngfdfgeoieebaa", sum := "28105169adb5b7a8e1617de539ccffc2678b6fa078fdb6b176020ed13dfcb548", func := "loop.example/g01203/laws.FnExactFirstMap", spec := "fnExactFirstMap", inPlace := ["slices.overlaps[int]"], unfollowed := true, recurses := true, apart := false, narrowed := true }
def FnExactFirstMapUptoSaid : Prop := fnExactFirstMapUptoRow.holds Try.pinned (OpenSpec.upto fnExactFirstMapSpec)

/-- 'laws.FnExactFirstLook', WHERE WHAT IT READS IS OF BULK AT MOST 1048576: true; the input reads as it did. -/
def fnExactFirstLookUptoRow : OpenClaim := { program := "ytngfdfgeoieebaa", sum := "28105169adb5b7a8e1617de539ccffc2678b6fa078fdb6b176020ed13dfcb548", func := "loop.example/g01203/laws.FnExactFirstLook", spec := "fnExactFirstLook", inPlace := ["slices.overlaps[int]"], unfollowed := true, recurses := true, apart := false, narrowed := true }
def FnExactFirstLookUptoSaid : Prop := fnExactFirstLookUptoRow.holds Try.pinned (OpenSpec.upto fnExactFirstLookSpec)

end Rows
end Go.Proofs.Ytngfdfgeoieebaa
