/-
  No cell of these rows narrows 'for every input' (looked for: loops, veiled, ifaces, maps, wideKeys, modest, calm, conditions, laid).
  DERIVED. THE GIVEN ROWS OF THIS SEAT. 13 by the template 'for every input the law returns true; each argument reads behind the call as it read before'; 0 by the template 'total and deterministic' (their statements: YtghjopgbhodccaaTotals.lean).
  GIVEN WITH THE SEED: the statements are not yours to turn. If you find one false, say at which input.
  Laid BY PROGRAM, IN A SANDBOX (cutbox-rows.mjs): the forced cells as the released guide's own fill.sh prints them over the translation 0c6e8a25ad17d1b2… (all of the seat's roots in one cut). By AI agents, Wed Nov 11 2026. No macro, syntax, notation, axiom, sorry.
-/
import Derived.Test.YtghjopgbhodccaaChecked
import GoSem.Claim
import GoSem.ClaimJoined
import GoSem.ClaimMapViews
import Derived.JoinedTies
import Derived.KernelRfl
namespace Go.Proofs.Ytghjopgbhodccaa
/- THE CELL 'sum', in the pinned program and in every row, IS THE sha256 OF THE DUMP (.gsa) THAT YtghjopgbhodccaaProg.lean LOADS. Nothing in Lean hashes anything: it is a label: what it is worth is what the hold of that sum in a sandbox is worth. -/
noncomputable def Try.pinned : Pinned := { name := "ytghjopgbhodccaa", sum := "0c6e8a25ad17d1b2de40eafdf723bf42a3e218feba28b8b8e870431b9990e1bc", checked := Try.checked }
namespace Rows
def none {H : Type} : Left H := { results := [], args := [] }

/-- 'laws.FnExactNextSeed': WHATEVER THE INPUT: true; the input reads as it did. -/
def fnExactNextSeedSpec : ChangeSpec := { name := "fnExactNextSeed", fn := fun _ => fun
  | [d] => { results := [.lit (.bool true)], args := [d] }
  | _ => none }
def fnExactNextSeedRow : OpenClaim := { program := "ytghjopgbhodccaa", sum := "0c6e8a25ad17d1b2de40eafdf723bf42a3e218feba28b8b8e870431b9990e1bc", func := "loop.example/g01203/laws.FnExactNextSeed", spec := "fnExactNextSeed", apart := false }
def FnExactNextSeedSaid : Prop := fnExactNextSeedRow.holds Try.pinned (OpenSpec.ofChange fnExactNextSeedSpec)

/-- ITS FALSE NEIGHBOUR: 'it returns false'. Refute it at one input. -/
def fnExactNextSeedWrong : ChangeSpec := { name := "fnExactNextSeed", fn := fun _ => fun
  | [d] => { results := [.lit (.bool false)], args := [d] }
  | _ => none }
def FnExactNextSeedWrongFalsely : Prop := fnExactNextSeedRow.holds Try.pinned (OpenSpec.ofChange fnExactNextSeedWrong)

/-- 'laws.FnExactPileOf': WHATEVER THE INPUT: true; the input reads as it did. -/
def fnExactPileOfSpec : ChangeSpec := { name := "fnExactPileOf", fn := fun _ => fun
  | [d] => { results := [.lit (.bool true)], args := [d] }
  | _ => none }
def fnExactPileOfRow : OpenClaim := { program := "ytghjopgbhodccaa", sum := "0c6e8a25ad17d1b2de40eafdf723bf42a3e218feba28b8b8e870431b9990e1bc", func := "loop.example/g01203/laws.FnExactPileOf", spec := "fnExactPileOf", apart := false }
def FnExactPileOfSaid : Prop := fnExactPileOfRow.holds Try.pinned (OpenSpec.ofChange fnExactPileOfSpec)

/-- ITS FALSE NEIGHBOUR: 'it returns false'. Refute it at one input. -/
def fnExactPileOfWrong : ChangeSpec := { name := "fnExactPileOf", fn := fun _ => fun
  | [d] => { results := [.lit (.bool false)], args := [d] }
  | _ => none }
def FnExactPileOfWrongFalsely : Prop := fnExactPileOfRow.holds Try.pinned (OpenSpec.ofChange fnExactPileOfWrong)

/-- 'laws.FnExactNewDeal': WHATEVER THE INPUT: true; the input reads as it did. -/
def fnExactNewDealSpec : ChangeSpec := { name := "fnExactNewDeal", fn := fun _ => fun
  | [d] => { results := [.lit (.bool true)], args := [d] }
  | _ => none }
def fnExactNewDealRow : OpenClaim := { program := "ytghjopgbhodccaa", sum := "0c6e8a25ad17d1b2de40eafdf723bf42a3e218feba28b8b8e870431b9990e1bc", func := "loop.example/g01203/laws.FnExactNewDeal", spec := "fnExactNewDeal", apart := false }
def FnExactNewDealSaid : Prop := fnExactNewDealRow.holds Try.pinned (OpenSpec.ofChange fnExactNewDealSpec)

/-- ITS FALSE NEIGHBOUR: 'it returns false'. Refute it at one input. -/
def fnExactNewDealWrong : ChangeSpec := { name := "fnExactNewDeal", fn := fun _ => fun
  | [d] => { results := [.lit (.bool false)], args := [d] }
  | _ => none }
def FnExactNewDealWrongFalsely : Prop := fnExactNewDealRow.holds Try.pinned (OpenSpec.ofChange fnExactNewDealWrong)

/-- 'laws.FnExactIsDeal': WHATEVER THE INPUT: true; the input reads as it did. -/
def fnExactIsDealSpec : ChangeSpec := { name := "fnExactIsDeal", fn := fun _ => fun
  | [d] => { results := [.lit (.bool true)], args := [d] }
  | _ => none }
def fnExactIsDealRow : OpenClaim := { program := "ytghjopgbhodccaa", sum := "0c6e8a25ad17d1b2de40eafdf723bf42a3e218feba28b8b8e870431b9990e1bc", func := "loop.example/g01203/laws.FnExactIsDeal", spec := "fnExactIsDeal", apart := false }
def FnExactIsDealSaid : Prop := fnExactIsDealRow.holds Try.pinned (OpenSpec.ofChange fnExactIsDealSpec)

/-- ITS FALSE NEIGHBOUR: 'it returns false'. Refute it at one input. -/
def fnExactIsDealWrong : ChangeSpec := { name := "fnExactIsDeal", fn := fun _ => fun
  | [d] => { results := [.lit (.bool false)], args := [d] }
  | _ => none }
def FnExactIsDealWrongFalsely : Prop := fnExactIsDealRow.holds Try.pinned (OpenSpec.ofChange fnExactIsDealWrong)

/-- 'laws.FnExactDealLines': WHATEVER THE INPUT: true; the input reads as it did. -/
def fnExactDealLinesSpec : ChangeSpec := { name := "fnExactDealLines", fn := fun _ => fun
  | [d] => { results := [.lit (.bool true)], args := [d] }
  | _ => none }
def fnExactDealLinesRow : OpenClaim := { program := "ytghjopgbhodccaa", sum := "0c6e8a25ad17d1b2de40eafdf723bf42a3e218feba28b8b8e870431b9990e1bc", func := "loop.example/g01203/laws.FnExactDealLines", spec := "fnExactDealLines", apart := false }
def FnExactDealLinesSaid : Prop := fnExactDealLinesRow.holds Try.pinned (OpenSpec.ofChange fnExactDealLinesSpec)

/-- ITS FALSE NEIGHBOUR: 'it returns false'. Refute it at one input. -/
def fnExactDealLinesWrong : ChangeSpec := { name := "fnExactDealLines", fn := fun _ => fun
  | [d] => { results := [.lit (.bool false)], args := [d] }
  | _ => none }
def FnExactDealLinesWrongFalsely : Prop := fnExactDealLinesRow.holds Try.pinned (OpenSpec.ofChange fnExactDealLinesWrong)

/-- 'laws.FnExactIsStuck': WHATEVER THE INPUT: true; the input reads as it did. -/
def fnExactIsStuckSpec : ChangeSpec := { name := "fnExactIsStuck", fn := fun _ => fun
  | [d] => { results := [.lit (.bool true)], args := [d] }
  | _ => none }
def fnExactIsStuckRow : OpenClaim := { program := "ytghjopgbhodccaa", sum := "0c6e8a25ad17d1b2de40eafdf723bf42a3e218feba28b8b8e870431b9990e1bc", func := "loop.example/g01203/laws.FnExactIsStuck", spec := "fnExactIsStuck", apart := false }
def FnExactIsStuckSaid : Prop := fnExactIsStuckRow.holds Try.pinned (OpenSpec.ofChange fnExactIsStuckSpec)

/-- ITS FALSE NEIGHBOUR: 'it returns false'. Refute it at one input. -/
def fnExactIsStuckWrong : ChangeSpec := { name := "fnExactIsStuck", fn := fun _ => fun
  | [d] => { results := [.lit (.bool false)], args := [d] }
  | _ => none }
def FnExactIsStuckWrongFalsely : Prop := fnExactIsStuckRow.holds Try.pinned (OpenSpec.ofChange fnExactIsStuckWrong)

/-- 'laws.FnExactIsOverDeal': WHATEVER THE INPUT: true; the input reads as it did. -/
def fnExactIsOverDealSpec : ChangeSpec := { name := "fnExactIsOverDeal", fn := fun _ => fun
  | [d] => { results := [.lit (.bool true)], args := [d] }
  | _ => none }
def fnExactIsOverDealRow : OpenClaim := { program := "ytghjopgbhodccaa", sum := "0c6e8a25ad17d1b2de40eafdf723bf42a3e218feba28b8b8e870431b9990e1bc", func := "loop.example/g01203/laws.FnExactIsOverDeal", spec := "fnExactIsOverDeal", apart := false }
def FnExactIsOverDealSaid : Prop := fnExactIsOverDealRow.holds Try.pinned (OpenSpec.ofChange fnExactIsOverDealSpec)

/-- ITS FALSE NEIGHBOUR: 'it returns false'. Refute it at one input. -/
def fnExactIsOverDealWrong : ChangeSpec := { name := "fnExactIsOverDeal", fn := fun _ => fun
  | [d] => { results := [.lit (.bool false)], args := [d] }
  | _ => none }
def FnExactIsOverDealWrongFalsely : Prop := fnExactIsOverDealRow.holds Try.pinned (OpenSpec.ofChange fnExactIsOverDealWrong)

/-- 'laws.FnExactLayMore': WHATEVER THE INPUT: true; the input reads as it did. -/
def fnExactLayMoreSpec : ChangeSpec := { name := "fnExactLayMore", fn := fun _ => fun
  | [d] => { results := [.lit (.bool true)], args := [d] }
  | _ => none }
def fnExactLayMoreRow : OpenClaim := { program := "ytghjopgbhodccaa", sum := "0c6e8a25ad17d1b2de40eafdf723bf42a3e218feba28b8b8e870431b9990e1bc", func := "loop.example/g01203/laws.FnExactLayMore", spec := "fnExactLayMore", apart := false }
def FnExactLayMoreSaid : Prop := fnExactLayMoreRow.holds Try.pinned (OpenSpec.ofChange fnExactLayMoreSpec)

/-- ITS FALSE NEIGHBOUR: 'it returns false'. Refute it at one input. -/
def fnExactLayMoreWrong : ChangeSpec := { name := "fnExactLayMore", fn := fun _ => fun
  | [d] => { results := [.lit (.bool false)], args := [d] }
  | _ => none }
def FnExactLayMoreWrongFalsely : Prop := fnExactLayMoreRow.holds Try.pinned (OpenSpec.ofChange fnExactLayMoreWrong)

/-- 'laws.FnExactTakeLine': WHATEVER THE INPUT: true; the input reads as it did. -/
def fnExactTakeLineSpec : ChangeSpec := { name := "fnExactTakeLine", fn := fun _ => fun
  | [d1, d2] => { results := [.lit (.bool true)], args := [d1, d2] }
  | _ => none }
def fnExactTakeLineRow : OpenClaim := { program := "ytghjopgbhodccaa", sum := "0c6e8a25ad17d1b2de40eafdf723bf42a3e218feba28b8b8e870431b9990e1bc", func := "loop.example/g01203/laws.FnExactTakeLine", spec := "fnExactTakeLine", apart := false }
def FnExactTakeLineSaid : Prop := fnExactTakeLineRow.holds Try.pinned (OpenSpec.ofChange fnExactTakeLineSpec)

/-- ITS FALSE NEIGHBOUR: 'it returns false'. Refute it at one input. -/
def fnExactTakeLineWrong : ChangeSpec := { name := "fnExactTakeLine", fn := fun _ => fun
  | [d1, d2] => { results := [.lit (.bool false)], args := [d1, d2] }
  | _ => none }
def FnExactTakeLineWrongFalsely : Prop := fnExactTakeLineRow.holds Try.pinned (OpenSpec.ofChange fnExactTakeLineWrong)

/-- 'laws.FnExactDealStep': WHATEVER THE INPUT: true; the input reads as it did. -/
def fnExactDealStepSpec : ChangeSpec := { name := "fnExactDealStep", fn := fun _ => fun
  | [d] => { results := [.lit (.bool true)], args := [d] }
  | _ => none }
def fnExactDealStepRow : OpenClaim := { program := "ytghjopgbhodccaa", sum := "0c6e8a25ad17d1b2de40eafdf723bf42a3e218feba28b8b8e870431b9990e1bc", func := "loop.example/g01203/laws.FnExactDealStep", spec := "fnExactDealStep", apart := false }
def FnExactDealStepSaid : Prop := fnExactDealStepRow.holds Try.pinned (OpenSpec.ofChange fnExactDealStepSpec)

/-- ITS FALSE NEIGHBOUR: 'it returns false'. Refute it at one input. -/
def fnExactDealStepWrong : ChangeSpec := { name := "fnExactDealStep", fn := fun _ => fun
  | [d] => { results := [.lit (.bool false)], args := [d] }
  | _ => none }
def FnExactDealStepWrongFalsely : Prop := fnExactDealStepRow.holds Try.pinned (OpenSpec.ofChange fnExactDealStepWrong)

/-- 'laws.FnExactPlayDeal': WHATEVER THE INPUT: true; the input reads as it did. -/
def fnExactPlayDealSpec : ChangeSpec := { name := "fnExactPlayDeal", fn := fun _ => fun
  | [d] => { results := [.lit (.bool true)], args := [d] }
  | _ => none }
def fnExactPlayDealRow : OpenClaim := { program := "ytghjopgbhodccaa", sum := "0c6e8a25ad17d1b2de40eafdf723bf42a3e218feba28b8b8e870431b9990e1bc", func := "loop.example/g01203/laws.FnExactPlayDeal", spec := "fnExactPlayDeal", apart := false }
def FnExactPlayDealSaid : Prop := fnExactPlayDealRow.holds Try.pinned (OpenSpec.ofChange fnExactPlayDealSpec)

/-- ITS FALSE NEIGHBOUR: 'it returns false'. Refute it at one input. -/
def fnExactPlayDealWrong : ChangeSpec := { name := "fnExactPlayDeal", fn := fun _ => fun
  | [d] => { results := [.lit (.bool false)], args := [d] }
  | _ => none }
def FnExactPlayDealWrongFalsely : Prop := fnExactPlayDealRow.holds Try.pinned (OpenSpec.ofChange fnExactPlayDealWrong)

/-- 'laws.FnExactDealSizes': WHATEVER THE INPUT: true; the input reads as it did. -/
def fnExactDealSizesSpec : ChangeSpec := { name := "fnExactDealSizes", fn := fun _ => fun
  | [d] => { results := [.lit (.bool true)], args := [d] }
  | _ => none }
def fnExactDealSizesRow : OpenClaim := { program := "ytghjopgbhodccaa", sum := "0c6e8a25ad17d1b2de40eafdf723bf42a3e218feba28b8b8e870431b9990e1bc", func := "loop.example/g01203/laws.FnExactDealSizes", spec := "fnExactDealSizes", apart := false }
def FnExactDealSizesSaid : Prop := fnExactDealSizesRow.holds Try.pinned (OpenSpec.ofChange fnExactDealSizesSpec)

/-- ITS FALSE NEIGHBOUR: 'it returns false'. Refute it at one input. -/
def fnExactDealSizesWrong : ChangeSpec := { name := "fnExactDealSizes", fn := fun _ => fun
  | [d] => { results := [.lit (.bool false)], args := [d] }
  | _ => none }
def FnExactDealSizesWrongFalsely : Prop := fnExactDealSizesRow.holds Try.pinned (OpenSpec.ofChange fnExactDealSizesWrong)

/-- 'laws.FnExactCardPlace': WHATEVER THE INPUT: true; the input reads as it did. -/
def fnExactCardPlaceSpec : ChangeSpec := { name := "fnExactCardPlace", fn := fun _ => fun
  | [d1, d2] => { results := [.lit (.bool true)], args := [d1, d2] }
  | _ => none }
def fnExactCardPlaceRow : OpenClaim := { program := "ytghjopgbhodccaa", sum := "0c6e8a25ad17d1b2de40eafdf723bf42a3e218feba28b8b8e870431b9990e1bc", func := "loop.example/g01203/laws.FnExactCardPlace", spec := "fnExactCardPlace", apart := false }
def FnExactCardPlaceSaid : Prop := fnExactCardPlaceRow.holds Try.pinned (OpenSpec.ofChange fnExactCardPlaceSpec)

/-- ITS FALSE NEIGHBOUR: 'it returns false'. Refute it at one input. -/
def fnExactCardPlaceWrong : ChangeSpec := { name := "fnExactCardPlace", fn := fun _ => fun
  | [d1, d2] => { results := [.lit (.bool false)], args := [d1, d2] }
  | _ => none }
def FnExactCardPlaceWrongFalsely : Prop := fnExactCardPlaceRow.holds Try.pinned (OpenSpec.ofChange fnExactCardPlaceWrong)

/- THE SECOND FORM. 'bulk': how many values and letters a reading holds, each counted each time it is reached (what is shared counts as often as it is met; a slice's spare places count too). A statement '..UptoSaid' is the law's where the arguments, and the package variables that the reading takes, are together of bulk at most 1048576: NARROWER than '..Said'. Prove '..Said' where nothing that the law and all that it calls make is longer than what came in: it says more and counts as full. Else prove '..UptoSaid'. A law counts once. -/
mutual
def uptoBulk {H : Type} : DataW H → Nat
  | .lit (.string bytes) => bytes.length + 1
  | .lit _ => 1
  | .nil => 1
  | .ptr d => uptoBulk d + 1
  | .slice elems spare => uptoBulkAll elems + uptoBulkAll spare + 1
  | .agg parts => uptoBulkAll parts + 1
  | .iface _ d => uptoBulk d + 1
  | .map entries => uptoBulkEntries entries + 1
  | .held _ => 1
def uptoBulkAll {H : Type} : List (DataW H) → Nat
  | [] => 0
  | d :: r => uptoBulk d + uptoBulkAll r
def uptoBulkEntries {H : Type} : List (Lit × DataW H) → Nat
  | [] => 0
  | x :: r => uptoBulkEntry x + uptoBulkEntries r
def uptoBulkEntry {H : Type} : Lit × DataW H → Nat
  | (.string bytes, d) => bytes.length + uptoBulk d + 1
  | (_, d) => uptoBulk d + 1
 end
def uptoSmall : (H : Type) → List (DataW H) → Bool := fun _ ds => decide (uptoBulkAll ds ≤ 1048576)
def OpenSpec.upto (s : _root_.Go.ChangeSpec) : _root_.Go.OpenSpec := { _root_.Go.OpenSpec.ofChange s with cond := some uptoSmall }

/-- 'laws.FnExactNextSeed', WHERE WHAT IT READS IS OF BULK AT MOST 1048576: true; the input reads as it did. -/
def fnExactNextSeedUptoRow : OpenClaim := { program := "ytghjopgbhodccaa", sum := "0c6e8a25ad17d1b2de40eafdf723bf42a3e218feba28b8b8e870431b9990e1bc", func := "loop.example/g01203/laws.FnExactNextSeed", spec := "fnExactNextSeed", apart := false, narrowed := true }
def FnExactNextSeedUptoSaid : Prop := fnExactNextSeedUptoRow.holds Try.pinned (OpenSpec.upto fnExactNextSeedSpec)

/-- 'laws.FnExactPileOf', WHERE WHAT IT READS IS OF BULK AT MOST 1048576: true; the input reads as it did. -/
def fnExactPileOfUptoRow : OpenClaim := { program := "ytghjopgbhodccaa", sum := "0c6e8a25ad17d1b2de40eafdf723bf42a3e218feba28b8b8e870431b9990e1bc", func := "loop.example/g01203/laws.FnExactPileOf", spec := "fnExactPileOf", apart := false, narrowed := true }
def FnExactPileOfUptoSaid : Prop := fnExactPileOfUptoRow.holds Try.pinned (OpenSpec.upto fnExactPileOfSpec)

/-- 'laws.FnExactNewDeal', WHERE WHAT IT READS IS OF BULK AT MOST 1048576: true; the input reads as it did. -/
def fnExactNewDealUptoRow : OpenClaim := { program := "ytghjopgbhodccaa", sum := "0c6e8a25ad17d1b2de40eafdf723bf42a3e218feba28b8b8e870431b9990e1bc", func := "loop.example/g01203/laws.FnExactNewDeal", spec := "fnExactNewDeal", apart := false, narrowed := true }
def FnExactNewDealUptoSaid : Prop := fnExactNewDealUptoRow.holds Try.pinned (OpenSpec.upto fnExactNewDealSpec)

/-- 'laws.FnExactIsDeal', WHERE WHAT IT READS IS OF BULK AT MOST 1048576: true; the input reads as it did. -/
def fnExactIsDealUptoRow : OpenClaim := { program := "ytghjopgbhodccaa", sum := "0c6e8a25ad17d1b2de40eafdf723bf42a3e218feba28b8b8e870431b9990e1bc", func := "loop.example/g01203/laws.FnExactIsDeal", spec := "fnExactIsDeal", apart := false, narrowed := true }
def FnExactIsDealUptoSaid : Prop := fnExactIsDealUptoRow.holds Try.pinned (OpenSpec.upto fnExactIsDealSpec)

/-- 'laws.FnExactDealLines', WHERE WHAT IT READS IS OF BULK AT MOST 1048576: true; the input reads as it did. -/
def fnExactDealLinesUptoRow : OpenClaim := { program := "ytghjopgbhodccaa", sum := "0c6e8a25ad17d1b2de40eafdf723bf42a3e218feba28b8b8e870431b9990e1bc", func := "loop.example/g01203/laws.FnExactDealLines", spec := "fnExactDealLines", apart := false, narrowed := true }
def FnExactDealLinesUptoSaid : Prop := fnExactDealLinesUptoRow.holds Try.pinned (OpenSpec.upto fnExactDealLinesSpec)

/-- 'laws.FnExactIsStuck', WHERE WHAT IT READS IS OF BULK AT MOST 1048576: true; the input reads as it did. -/
def fnExactIsStuckUptoRow : OpenClaim := { program := "ytghjopgbhodccaa", sum := "0c6e8a25ad17d1b2de40eafdf723bf42a3e218feba28b8b8e870431b9990e1bc", func := "loop.example/g01203/laws.FnExactIsStuck", spec := "fnExactIsStuck", apart := false, narrowed := true }
def FnExactIsStuckUptoSaid : Prop := fnExactIsStuckUptoRow.holds Try.pinned (OpenSpec.upto fnExactIsStuckSpec)

/-- 'laws.FnExactIsOverDeal', WHERE WHAT IT READS IS OF BULK AT MOST 1048576: true; the input reads as it did. -/
def fnExactIsOverDealUptoRow : OpenClaim := { program := "ytghjopgbhodccaa", sum := "0c6e8a25ad17d1b2de40eafdf723bf42a3e218feba28b8b8e870431b9990e1bc", func := "loop.example/g01203/laws.FnExactIsOverDeal", spec := "fnExactIsOverDeal", apart := false, narrowed := true }
def FnExactIsOverDealUptoSaid : Prop := fnExactIsOverDealUptoRow.holds Try.pinned (OpenSpec.upto fnExactIsOverDealSpec)

/-- 'laws.FnExactLayMore', WHERE WHAT IT READS IS OF BULK AT MOST 1048576: true; the input reads as it did. -/
def fnExactLayMoreUptoRow : OpenClaim := { program := "ytghjopgbhodccaa", sum := "0c6e8a25ad17d1b2de40eafdf723bf42a3e218feba28b8b8e870431b9990e1bc", func := "loop.example/g01203/laws.FnExactLayMore", spec := "fnExactLayMore", apart := false, narrowed := true }
def FnExactLayMoreUptoSaid : Prop := fnExactLayMoreUptoRow.holds Try.pinned (OpenSpec.upto fnExactLayMoreSpec)

/-- 'laws.FnExactTakeLine', WHERE WHAT IT READS IS OF BULK AT MOST 1048576: true; the input reads as it did. -/
def fnExactTakeLineUptoRow : OpenClaim := { program := "ytghjopgbhodccaa", sum := "0c6e8a25ad17d1b2de40eafdf723bf42a3e218feba28b8b8e870431b9990e1bc", func := "loop.example/g01203/laws.FnExactTakeLine", spec := "fnExactTakeLine", apart := false, narrowed := true }
def FnExactTakeLineUptoSaid : Prop := fnExactTakeLineUptoRow.holds Try.pinned (OpenSpec.upto fnExactTakeLineSpec)

/-- 'laws.FnExactDealStep', WHERE WHAT IT READS IS OF BULK AT MOST 1048576: true; the input reads as it did. -/
def fnExactDealStepUptoRow : OpenClaim := { program := "ytghjopgbhodccaa", sum := "0c6e8a25ad17d1b2de40eafdf723bf42a3e218feba28b8b8e870431b9990e1bc", func := "loop.example/g01203/laws.FnExactDealStep", spec := "fnExactDealStep", apart := false, narrowed := true }
def FnExactDealStepUptoSaid : Prop := fnExactDealStepUptoRow.holds Try.pinned (OpenSpec.upto fnExactDealStepSpec)

/-- 'laws.FnExactPlayDeal', WHERE WHAT IT READS IS OF BULK AT MOST 1048576: true; the input reads as it did. -/
def fnExactPlayDealUptoRow : OpenClaim := { program := "ytghjopgbhodccaa", sum := "0c6e8a25ad17d1b2de40eafdf723bf42a3e218feba28b8b8e870431b9990e1bc", func := "loop.example/g01203/laws.FnExactPlayDeal", spec := "fnExactPlayDeal", apart := false, narrowed := true }
def FnExactPlayDealUptoSaid : Prop := fnExactPlayDealUptoRow.holds Try.pinned (OpenSpec.upto fnExactPlayDealSpec)

/-- 'laws.FnExactDealSizes', WHERE WHAT IT READS IS OF BULK AT MOST 1048576: true; the input reads as it did. -/
def fnExactDealSizesUptoRow : OpenClaim := { program := "ytghjopgbhodccaa", sum := "0c6e8a25ad17d1b2de40eafdf723bf42a3e218feba28b8b8e870431b9990e1bc", func := "loop.example/g01203/laws.FnExactDealSizes", spec := "fnExactDealSizes", apart := false, narrowed := true }
def FnExactDealSizesUptoSaid : Prop := fnExactDealSizesUptoRow.holds Try.pinned (OpenSpec.upto fnExactDealSizesSpec)

/-- 'laws.FnExactCardPlace', WHERE WHAT IT READS IS OF BULK AT MOST 1048576: true; the input reads as it did. -/
def fnExactCardPlaceUptoRow : OpenClaim := { program := "ytghjopgbhodccaa", sum := "0c6e8a25ad17d1b2de40eafdf723bf42a3e218feba28b8b8e870431b9990e1bc", func := "loop.example/g01203/laws.FnExactCardPlace", spec := "fnExactCardPlace", apart := false, narrowed := true }
def FnExactCardPlaceUptoSaid : Prop := fnExactCardPlaceUptoRow.holds Try.pinned (OpenSpec.upto fnExactCardPlaceSpec)

end Rows
end Go.Proofs.Ytghjopgbhodccaa
