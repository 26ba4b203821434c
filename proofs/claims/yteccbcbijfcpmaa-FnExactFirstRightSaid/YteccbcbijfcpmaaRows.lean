/-
  No cell of these rows narrows 'for every input' (looked for: loops, veiled, ifaces, maps, wideKeys, modest, calm, conditions, laid).
  DERIVED. THE GIVEN ROWS OF THIS SEAT. 12 by the template 'for every input the law returns true; each argument reads behind the call as it read before'; 0 by the template 'total and deterministic' (their statements: YteccbcbijfcpmaaTotals.lean).
  GIVEN WITH THE SEED: the statements are not yours to turn. If you find one false, say at which input.
  Laid BY PROGRAM, IN A SANDBOX (cutbox-rows.mjs): the forced cells as the released guide's own fill.sh prints them over the translation 18f726566e851e2d… (all of the seat's roots in one cut). By AI agents, Wed Nov 11 2026. No macro, syntax, notation, axiom, sorry.
-/
import Derived.Test.YteccbcbijfcpmaaChecked
import GoSem.Claim
import GoSem.ClaimJoined
import GoSem.ClaimMapViews
import Derived.JoinedTies
import Derived.KernelRfl
namespace Go.Proofs.Yteccbcbijfcpmaa
/- THE CELL 'sum', in the pinned program and in every row, IS THE sha256 OF THE DUMP (.gsa) THAT YteccbcbijfcpmaaProg.lean LOADS. Nothing in Lean hashes anything: it is a label: what it is worth is what the hold of that sum in a sandbox is worth. -/
noncomputable def Try.pinned : Pinned := { name := "yteccbcbijfcpmaa", sum := "18f726566e851e2dd6cba459ff895b0f016b011d37ef81341fdc61c58779d996", checked := Try.checked }
namespace Rows
def none {H : Type} : Left H := { results := [], args := [] }

/-- 'laws.FnExactNewGame': WHATEVER THE INPUT: true; the input reads as it did. -/
def fnExactNewGameSpec : ChangeSpec := { name := "fnExactNewGame", fn := fun _ => fun
  | [d1, d2] => { results := [.lit (.bool true)], args := [d1, d2] }
  | _ => none }
def fnExactNewGameRow : OpenClaim := { program := "yteccbcbijfcpmaa", sum := "18f726566e851e2dd6cba459ff895b0f016b011d37ef81341fdc61c58779d996", func := "loop.example/g01203/laws.FnExactNewGame", spec := "fnExactNewGame", apart := false }
def FnExactNewGameSaid : Prop := fnExactNewGameRow.holds Try.pinned (OpenSpec.ofChange fnExactNewGameSpec)

/-- ITS FALSE NEIGHBOUR: 'it returns false'. Refute it at one input. -/
def fnExactNewGameWrong : ChangeSpec := { name := "fnExactNewGame", fn := fun _ => fun
  | [d1, d2] => { results := [.lit (.bool false)], args := [d1, d2] }
  | _ => none }
def FnExactNewGameWrongFalsely : Prop := fnExactNewGameRow.holds Try.pinned (OpenSpec.ofChange fnExactNewGameWrong)

/-- 'laws.FnExactIsGame': WHATEVER THE INPUT: true; the input reads as it did. -/
def fnExactIsGameSpec : ChangeSpec := { name := "fnExactIsGame", fn := fun _ => fun
  | [d] => { results := [.lit (.bool true)], args := [d] }
  | _ => none }
def fnExactIsGameRow : OpenClaim := { program := "yteccbcbijfcpmaa", sum := "18f726566e851e2dd6cba459ff895b0f016b011d37ef81341fdc61c58779d996", func := "loop.example/g01203/laws.FnExactIsGame", spec := "fnExactIsGame", unfollowed := true, recurses := true, apart := false }
def FnExactIsGameSaid : Prop := fnExactIsGameRow.holds Try.pinned (OpenSpec.ofChange fnExactIsGameSpec)

/-- ITS FALSE NEIGHBOUR: 'it returns false'. Refute it at one input. -/
def fnExactIsGameWrong : ChangeSpec := { name := "fnExactIsGame", fn := fun _ => fun
  | [d] => { results := [.lit (.bool false)], args := [d] }
  | _ => none }
def FnExactIsGameWrongFalsely : Prop := fnExactIsGameRow.holds Try.pinned (OpenSpec.ofChange fnExactIsGameWrong)

/-- 'laws.FnExactClaimKind': WHATEVER THE INPUT: true; the input reads as it did. -/
def fnExactClaimKindSpec : ChangeSpec := { name := "fnExactClaimKind", fn := fun _ => fun
  | [d1, d2] => { results := [.lit (.bool true)], args := [d1, d2] }
  | _ => none }
def fnExactClaimKindRow : OpenClaim := { program := "yteccbcbijfcpmaa", sum := "18f726566e851e2dd6cba459ff895b0f016b011d37ef81341fdc61c58779d996", func := "loop.example/g01203/laws.FnExactClaimKind", spec := "fnExactClaimKind", unfollowed := true, recurses := true, apart := false }
def FnExactClaimKindSaid : Prop := fnExactClaimKindRow.holds Try.pinned (OpenSpec.ofChange fnExactClaimKindSpec)

/-- ITS FALSE NEIGHBOUR: 'it returns false'. Refute it at one input. -/
def fnExactClaimKindWrong : ChangeSpec := { name := "fnExactClaimKind", fn := fun _ => fun
  | [d1, d2] => { results := [.lit (.bool false)], args := [d1, d2] }
  | _ => none }
def FnExactClaimKindWrongFalsely : Prop := fnExactClaimKindRow.holds Try.pinned (OpenSpec.ofChange fnExactClaimKindWrong)

/-- 'laws.FnExactMakeClaim': WHATEVER THE INPUT: true; the input reads as it did. -/
def fnExactMakeClaimSpec : ChangeSpec := { name := "fnExactMakeClaim", fn := fun _ => fun
  | [d1, d2] => { results := [.lit (.bool true)], args := [d1, d2] }
  | _ => none }
def fnExactMakeClaimRow : OpenClaim := { program := "yteccbcbijfcpmaa", sum := "18f726566e851e2dd6cba459ff895b0f016b011d37ef81341fdc61c58779d996", func := "loop.example/g01203/laws.FnExactMakeClaim", spec := "fnExactMakeClaim", unfollowed := true, recurses := true, apart := false }
def FnExactMakeClaimSaid : Prop := fnExactMakeClaimRow.holds Try.pinned (OpenSpec.ofChange fnExactMakeClaimSpec)

/-- ITS FALSE NEIGHBOUR: 'it returns false'. Refute it at one input. -/
def fnExactMakeClaimWrong : ChangeSpec := { name := "fnExactMakeClaim", fn := fun _ => fun
  | [d1, d2] => { results := [.lit (.bool false)], args := [d1, d2] }
  | _ => none }
def FnExactMakeClaimWrongFalsely : Prop := fnExactMakeClaimRow.holds Try.pinned (OpenSpec.ofChange fnExactMakeClaimWrong)

/-- 'laws.FnExactRunClaims': WHATEVER THE INPUT: true; the input reads as it did. -/
def fnExactRunClaimsSpec : ChangeSpec := { name := "fnExactRunClaims", fn := fun _ => fun
  | [d1, d2] => { results := [.lit (.bool true)], args := [d1, d2] }
  | _ => none }
def fnExactRunClaimsRow : OpenClaim := { program := "yteccbcbijfcpmaa", sum := "18f726566e851e2dd6cba459ff895b0f016b011d37ef81341fdc61c58779d996", func := "loop.example/g01203/laws.FnExactRunClaims", spec := "fnExactRunClaims", unfollowed := true, recurses := true, apart := false }
def FnExactRunClaimsSaid : Prop := fnExactRunClaimsRow.holds Try.pinned (OpenSpec.ofChange fnExactRunClaimsSpec)

/-- ITS FALSE NEIGHBOUR: 'it returns false'. Refute it at one input. -/
def fnExactRunClaimsWrong : ChangeSpec := { name := "fnExactRunClaims", fn := fun _ => fun
  | [d1, d2] => { results := [.lit (.bool false)], args := [d1, d2] }
  | _ => none }
def FnExactRunClaimsWrongFalsely : Prop := fnExactRunClaimsRow.holds Try.pinned (OpenSpec.ofChange fnExactRunClaimsWrong)

/-- 'laws.FnExactPointsOf': WHATEVER THE INPUT: true; the input reads as it did. -/
def fnExactPointsOfSpec : ChangeSpec := { name := "fnExactPointsOf", fn := fun _ => fun
  | [d] => { results := [.lit (.bool true)], args := [d] }
  | _ => none }
def fnExactPointsOfRow : OpenClaim := { program := "yteccbcbijfcpmaa", sum := "18f726566e851e2dd6cba459ff895b0f016b011d37ef81341fdc61c58779d996", func := "loop.example/g01203/laws.FnExactPointsOf", spec := "fnExactPointsOf", unfollowed := true, recurses := true, apart := false }
def FnExactPointsOfSaid : Prop := fnExactPointsOfRow.holds Try.pinned (OpenSpec.ofChange fnExactPointsOfSpec)

/-- ITS FALSE NEIGHBOUR: 'it returns false'. Refute it at one input. -/
def fnExactPointsOfWrong : ChangeSpec := { name := "fnExactPointsOf", fn := fun _ => fun
  | [d] => { results := [.lit (.bool false)], args := [d] }
  | _ => none }
def FnExactPointsOfWrongFalsely : Prop := fnExactPointsOfRow.holds Try.pinned (OpenSpec.ofChange fnExactPointsOfWrong)

/-- 'laws.FnExactLeadersOf': WHATEVER THE INPUT: true; the input reads as it did. -/
def fnExactLeadersOfSpec : ChangeSpec := { name := "fnExactLeadersOf", fn := fun _ => fun
  | [d] => { results := [.lit (.bool true)], args := [d] }
  | _ => none }
def fnExactLeadersOfRow : OpenClaim := { program := "yteccbcbijfcpmaa", sum := "18f726566e851e2dd6cba459ff895b0f016b011d37ef81341fdc61c58779d996", func := "loop.example/g01203/laws.FnExactLeadersOf", spec := "fnExactLeadersOf", unfollowed := true, recurses := true, apart := false }
def FnExactLeadersOfSaid : Prop := fnExactLeadersOfRow.holds Try.pinned (OpenSpec.ofChange fnExactLeadersOfSpec)

/-- ITS FALSE NEIGHBOUR: 'it returns false'. Refute it at one input. -/
def fnExactLeadersOfWrong : ChangeSpec := { name := "fnExactLeadersOf", fn := fun _ => fun
  | [d] => { results := [.lit (.bool false)], args := [d] }
  | _ => none }
def FnExactLeadersOfWrongFalsely : Prop := fnExactLeadersOfRow.holds Try.pinned (OpenSpec.ofChange fnExactLeadersOfWrong)

/-- 'laws.FnExactLinesAhead': WHATEVER THE INPUT: true; the input reads as it did. -/
def fnExactLinesAheadSpec : ChangeSpec := { name := "fnExactLinesAhead", fn := fun _ => fun
  | [d] => { results := [.lit (.bool true)], args := [d] }
  | _ => none }
def fnExactLinesAheadRow : OpenClaim := { program := "yteccbcbijfcpmaa", sum := "18f726566e851e2dd6cba459ff895b0f016b011d37ef81341fdc61c58779d996", func := "loop.example/g01203/laws.FnExactLinesAhead", spec := "fnExactLinesAhead", unfollowed := true, recurses := true, apart := false }
def FnExactLinesAheadSaid : Prop := fnExactLinesAheadRow.holds Try.pinned (OpenSpec.ofChange fnExactLinesAheadSpec)

/-- ITS FALSE NEIGHBOUR: 'it returns false'. Refute it at one input. -/
def fnExactLinesAheadWrong : ChangeSpec := { name := "fnExactLinesAhead", fn := fun _ => fun
  | [d] => { results := [.lit (.bool false)], args := [d] }
  | _ => none }
def FnExactLinesAheadWrongFalsely : Prop := fnExactLinesAheadRow.holds Try.pinned (OpenSpec.ofChange fnExactLinesAheadWrong)

/-- 'laws.FnExactCanLead': WHATEVER THE INPUT: true; the input reads as it did. -/
def fnExactCanLeadSpec : ChangeSpec := { name := "fnExactCanLead", fn := fun _ => fun
  | [d1, d2] => { results := [.lit (.bool true)], args := [d1, d2] }
  | _ => none }
def fnExactCanLeadRow : OpenClaim := { program := "yteccbcbijfcpmaa", sum := "18f726566e851e2dd6cba459ff895b0f016b011d37ef81341fdc61c58779d996", func := "loop.example/g01203/laws.FnExactCanLead", spec := "fnExactCanLead", unfollowed := true, recurses := true, apart := false }
def FnExactCanLeadSaid : Prop := fnExactCanLeadRow.holds Try.pinned (OpenSpec.ofChange fnExactCanLeadSpec)

/-- ITS FALSE NEIGHBOUR: 'it returns false'. Refute it at one input. -/
def fnExactCanLeadWrong : ChangeSpec := { name := "fnExactCanLead", fn := fun _ => fun
  | [d1, d2] => { results := [.lit (.bool false)], args := [d1, d2] }
  | _ => none }
def FnExactCanLeadWrongFalsely : Prop := fnExactCanLeadRow.holds Try.pinned (OpenSpec.ofChange fnExactCanLeadWrong)

/-- 'laws.FnExactRankGame': WHATEVER THE INPUT: true; the input reads as it did. -/
def fnExactRankGameSpec : ChangeSpec := { name := "fnExactRankGame", fn := fun _ => fun
  | [d] => { results := [.lit (.bool true)], args := [d] }
  | _ => none }
def fnExactRankGameRow : OpenClaim := { program := "yteccbcbijfcpmaa", sum := "18f726566e851e2dd6cba459ff895b0f016b011d37ef81341fdc61c58779d996", func := "loop.example/g01203/laws.FnExactRankGame", spec := "fnExactRankGame", unfollowed := true, recurses := true, apart := false }
def FnExactRankGameSaid : Prop := fnExactRankGameRow.holds Try.pinned (OpenSpec.ofChange fnExactRankGameSpec)

/-- ITS FALSE NEIGHBOUR: 'it returns false'. Refute it at one input. -/
def fnExactRankGameWrong : ChangeSpec := { name := "fnExactRankGame", fn := fun _ => fun
  | [d] => { results := [.lit (.bool false)], args := [d] }
  | _ => none }
def FnExactRankGameWrongFalsely : Prop := fnExactRankGameRow.holds Try.pinned (OpenSpec.ofChange fnExactRankGameWrong)

/-- 'laws.FnExactWorthClaims': WHATEVER THE INPUT: true; the input reads as it did. -/
def fnExactWorthClaimsSpec : ChangeSpec := { name := "fnExactWorthClaims", fn := fun _ => fun
  | [d1, d2, d3] => { results := [.lit (.bool true)], args := [d1, d2, d3] }
  | _ => none }
def fnExactWorthClaimsRow : OpenClaim := { program := "yteccbcbijfcpmaa", sum := "18f726566e851e2dd6cba459ff895b0f016b011d37ef81341fdc61c58779d996", func := "loop.example/g01203/laws.FnExactWorthClaims", spec := "fnExactWorthClaims", unfollowed := true, recurses := true, apart := false }
def FnExactWorthClaimsSaid : Prop := fnExactWorthClaimsRow.holds Try.pinned (OpenSpec.ofChange fnExactWorthClaimsSpec)

/-- ITS FALSE NEIGHBOUR: 'it returns false'. Refute it at one input. -/
def fnExactWorthClaimsWrong : ChangeSpec := { name := "fnExactWorthClaims", fn := fun _ => fun
  | [d1, d2, d3] => { results := [.lit (.bool false)], args := [d1, d2, d3] }
  | _ => none }
def FnExactWorthClaimsWrongFalsely : Prop := fnExactWorthClaimsRow.holds Try.pinned (OpenSpec.ofChange fnExactWorthClaimsWrong)

/-- 'laws.FnExactFirstRight': WHATEVER THE INPUT: true; the input reads as it did. -/
def fnExactFirstRightSpec : ChangeSpec := { name := "fnExactFirstRight", fn := fun _ => fun
  | [d1, d2] => { results := [.lit (.bool true)], args := [d1, d2] }
  | _ => none }
def fnExactFirstRightRow : OpenClaim := { program := "yteccbcbijfcpmaa", sum := "18f726566e851e2dd6cba459ff895b0f016b011d37ef81341fdc61c58779d996", func := "loop.example/g01203/laws.FnExactFirstRight", spec := "fnExactFirstRight", unfollowed := true, recurses := true, apart := false }
def FnExactFirstRightSaid : Prop := fnExactFirstRightRow.holds Try.pinned (OpenSpec.ofChange fnExactFirstRightSpec)

/-- ITS FALSE NEIGHBOUR: 'it returns false'. Refute it at one input. -/
def fnExactFirstRightWrong : ChangeSpec := { name := "fnExactFirstRight", fn := fun _ => fun
  | [d1, d2] => { results := [.lit (.bool false)], args := [d1, d2] }
  | _ => none }
def FnExactFirstRightWrongFalsely : Prop := fnExactFirstRightRow.holds Try.pinned (OpenSpec.ofChange fnExactFirstRightWrong)

/- THE SECOND FORM. 'bulk': how many values and letters a reading holds, each counted each time it is reached (what is shared counts as often as it is met; a slice's spare places count too). A statement '..UptoSaid' is the law's where the arguments, and the package variables that the reading takes, are together of bulk at most 1048576: NARROWER than '..Said'. Prove '..Said' where nothing that the law and all that it calls make is longer than what came in: it says more and counts as full. Else prove '..UptoSaid'. A law counts once. -/
mutual
def uptoBulk {H : Type} : DataW H → Nat
  | .lit (.string bytes) => bytes.length + 1
  | .lit _ => 1
  | .nil => 1
  | .ptr d => uptoBulk d + 1
  | .slice elems spare => uptoBulkAll elems + uptoBulkAll spare + 1
  | .agg parts => uptoBulkAll parts + 1
  | .iface _ d => uptoBulk d + 1
  | .map entries => uptoBulkEntries entries + 1
  | .held _ => 1
def uptoBulkAll {H : Type} : List (DataW H) → Nat
  | [] => 0
  | d :: r => uptoBulk d + uptoBulkAll r
def uptoBulkEntries {H : Type} : List (Lit × DataW H) → Nat
  | [] => 0
  | x :: r => uptoBulkEntry x + uptoBulkEntries r
def uptoBulkEntry {H : Type} : Lit × DataW H → Nat
  | (.string bytes, d) => bytes.length + uptoBulk d + 1
  | (_, d) => uptoBulk d + 1
 end
def uptoSmall : (H : Type) → List (DataW H) → Bool := fun _ ds => decide (uptoBulkAll ds ≤ 1048576)
def OpenSpec.upto (s : _root_.Go.ChangeSpec) : _root_.Go.OpenSpec := { _root_.Go.OpenSpec.ofChange s with cond := some uptoSmall }

/-- 'laws.FnExactNewGame', WHERE WHAT IT READS IS OF BULK AT MOST 1048576: true; the input reads as it did. -/
def fnExactNewGameUptoRow : OpenClaim := { program := "yteccbcbijfcpmaa", sum := "18f726566e851e2dd6cba459ff895b0f016b011d37ef81341fdc61c58779d996", func := "loop.example/g01203/laws.FnExactNewGame", spec := "fnExactNewGame", apart := false, narrowed := true }
def FnExactNewGameUptoSaid : Prop := fnExactNewGameUptoRow.holds Try.pinned (OpenSpec.upto fnExactNewGameSpec)

/-- 'laws.FnExactIsGame', WHERE WHAT IT READS IS OF BULK AT MOST 1048576: true; the input reads as it did. -/
def fnExactIsGameUptoRow : OpenClaim := { program := "yteccbcbijfcpmaa", sum := "18f726566e851e2dd6cba459ff895b0f016b011d37ef81341fdc61c58779d996", func := "loop.example/g01203/laws.FnExactIsGame", spec := "fnExactIsGame", unfollowed := true, recurses := true, apart := false, narrowed := true }
def FnExactIsGameUptoSaid : Prop := fnExactIsGameUptoRow.holds Try.pinned (OpenSpec.upto fnExactIsGameSpec)

/-- 'laws.FnExactClaimKind', WHERE WHAT IT READS IS OF BULK AT MOST 1048576: true; the input reads as it did. -/
def fnExactClaimKindUptoRow : OpenClaim := { program := "yteccbcbijfcpmaa", sum := "18f726566e851e2dd6cba459ff895b0f016b011d37ef81341fdc61c58779d996", func := "loop.example/g01203/laws.FnExactClaimKind", spec := "fnExactClaimKind", unfollowed := true, recurses := true, apart := false, narrowed := true }
def FnExactClaimKindUptoSaid : Prop := fnExactClaimKindUptoRow.holds Try.pinned (OpenSpec.upto fnExactClaimKindSpec)

/-- 'laws.FnExactMakeClaim', WHERE WHAT IT READS IS OF BULK AT MOST 1048576: true; the input reads as it did. -/
def fnExactMakeClaimUptoRow : OpenClaim := { program := "yteccbcbijfcpmaa", sum := "18f726566e851e2dd6cba459ff895b0f016b011d37ef81341fdc61c58779d996", func := "loop.example/g01203/laws.FnExactMakeClaim", spec := "fnExactMakeClaim", unfollowed := true, recurses := true, apart := false, narrowed := true }
def FnExactMakeClaimUptoSaid : Prop := fnExactMakeClaimUptoRow.holds Try.pinned (OpenSpec.upto fnExactMakeClaimSpec)

/-- 'laws.FnExactRunClaims', WHERE WHAT IT READS IS OF BULK AT MOST 1048576: true; the input reads as it did. -/
def fnExactRunClaimsUptoRow : OpenClaim := { program := "yteccbcbijfcpmaa", sum := "18f726566e851e2dd6cba459ff895b0f016b011d37ef81341fdc61c58779d996", func := "loop.example/g01203/laws.FnExactRunClaims", spec := "fnExactRunClaims", unfollowed := true, recurses := true, apart := false, narrowed := true }
def FnExactRunClaimsUptoSaid : Prop := fnExactRunClaimsUptoRow.holds Try.pinned (OpenSpec.upto fnExactRunClaimsSpec)

/-- 'laws.FnExactPointsOf', WHERE WHAT IT READS IS OF BULK AT MOST 1048576: true; the input reads as it did. -/
def fnExactPointsOfUptoRow : OpenClaim := { program := "yteccbcbijfcpmaa", sum := "18f726566e851e2dd6cba459ff895b0f016b011d37ef81341fdc61c58779d996", func := "loop.example/g01203/laws.FnExactPointsOf", spec := "fnExactPointsOf", unfollowed := true, recurses := true, apart := false, narrowed := true }
def FnExactPointsOfUptoSaid : Prop := fnExactPointsOfUptoRow.holds Try.pinned (OpenSpec.upto fnExactPointsOfSpec)

/-- 'laws.FnExactLeadersOf', WHERE WHAT IT READS IS OF BULK AT MOST 1048576: true; the input reads as it did. -/
def fnExactLeadersOfUptoRow : OpenClaim := { program := "yteccbcbijfcpmaa", sum := "18f726566e851e2dd6cba459ff895b0f016b011d37ef81341fdc61c58779d996", func := "loop.example/g01203/laws.FnExactLeadersOf", spec := "fnExactLeadersOf", unfollowed := true, recurses := true, apart := false, narrowed := true }
def FnExactLeadersOfUptoSaid : Prop := fnExactLeadersOfUptoRow.holds Try.pinned (OpenSpec.upto fnExactLeadersOfSpec)

/-- 'laws.FnExactLinesAhead', WHERE WHAT IT READS IS OF BULK AT MOST 1048576: true; the input reads as it did. -/
def fnExactLinesAheadUptoRow : OpenClaim := { program := "yteccbcbijfcpmaa", sum := "18f726566e851e2dd6cba459ff895b0f016b011d37ef81341fdc61c58779d996", func := "loop.example/g01203/laws.FnExactLinesAhead", spec := "fnExactLinesAhead", unfollowed := true, recurses := true, apart := false, narrowed := true }
def FnExactLinesAheadUptoSaid : Prop := fnExactLinesAheadUptoRow.holds Try.pinned (OpenSpec.upto fnExactLinesAheadSpec)

/-- 'laws.FnExactCanLead', WHERE WHAT IT READS IS OF BULK AT MOST 1048576: true; the input reads as it did. -/
def fnExactCanLeadUptoRow : OpenClaim := { program := "yteccbcbijfcpmaa", sum := "18f726566e851e2dd6cba459ff895b0f016b011d37ef81341fdc61c58779d996", func := "loop.example/g01203/laws.FnExactCanLead", spec := "fnExactCanLead", unfollowed := true, recurses := true, apart := false, narrowed := true }
def FnExactCanLeadUptoSaid : Prop := fnExactCanLeadUptoRow.holds Try.pinned (OpenSpec.upto fnExactCanLeadSpec)

/-- 'laws.FnExactRankGame', WHERE WHAT IT READS IS OF BULK AT MOST 1048576: true; the input reads as it did. -/
def fnExactRankGameUptoRow : OpenClaim := { program := "yteccbcbijfcpmaa", sum := "18f726566e851e2dd6cba459ff895b0f016b011d37ef81341fdc61c58779d996", func := "loop.example/g01203/laws.FnExactRankGame", spec := "fnExactRankGame", unfollowed := true, recurses := true, apart := false, narrowed := true }
def FnExactRankGameUptoSaid : Prop := fnExactRankGameUptoRow.holds Try.pinned (OpenSpec.upto fnExactRankGameSpec)

/-- 'laws.FnExactWorthClaims', WHERE WHAT IT READS IS OF BULK AT MOST 1048576: true; the input reads as it did. -/
def fnExactWorthClaimsUptoRow : OpenClaim := { program := "yteccbcbijfcpmaa", sum := "18f726566e851e2dd6cba459ff895b0f016b011d37ef81341fdc61c58779d996", func := "loop.example/g01203/laws.FnExactWorthClaims", spec := "fnExactWorthClaims", unfollowed := true, recurses := true, apart := false, narrowed := true }
def FnExactWorthClaimsUptoSaid : Prop := fnExactWorthClaimsUptoRow.holds Try.pinned (OpenSpec.upto fnExactWorthClaimsSpec)

/-- 'laws.FnExactFirstRight', WHERE WHAT IT READS IS OF BULK AT MOST 1048576: true; the input reads as it did. -/
def fnExactFirstRightUptoRow : OpenClaim := { program := "yteccbcbijfcpmaa", sum := "18f726566e851e2dd6cba459ff895b0f016b011d37ef81341fdc61c58779d996", func := "loop.example/g01203/laws.FnExactFirstRight", spec := "fnExactFirstRight", unfollowed := true, recurses := true, apart := false, narrowed := true }
def FnExactFirstRightUptoSaid : Prop := fnExactFirstRightUptoRow.holds Try.pinned (OpenSpec.upto fnExactFirstRightSpec)

end Rows
end Go.Proofs.Yteccbcbijfcpmaa
