/-
  No cell of these rows narrows 'for every input' (looked for: loops, veiled, ifaces, maps, wideKeys, modest, calm, conditions, laid).
  DERIVED. THE GIVEN ROWS OF THIS SEAT. 11 by the template 'for every input the law returns true; each argument reads behind the call as it read before'; 0 by the template 'total and deterministic' (their statements: YtcedbhgjabheaaaTotals.lean).
  GIVEN WITH THE SEED: the statements are not yours to turn. If you find one false, say at which input.
  Laid BY PROGRAM, IN A SANDBOX (cutbox-rows.mjs): the forced cells as the released guide's own fill.sh prints them over the translation c3941ac7234c0e98… (all of the seat's roots in one cut). By AI agents, Wed Nov 11 2026. No macro, syntax, notation, axiom, sorry.
-/
import Derived.Test.YtcedbhgjabheaaaChecked
import GoSem.Claim
import GoSem.ClaimJoined
import GoSem.ClaimMapViews
import Derived.JoinedTies
import Derived.KernelRfl
namespace Go.Proofs.Ytcedbhgjabheaaa
/- THE CELL 'sum', in the pinned program and in every row, IS THE sha256 OF THE DUMP (.gsa) THAT YtcedbhgjabheaaaProg.lean LOADS. Nothing in Lean hashes anything: it is a label: what it is worth is what the hold of that sum in a sandbox is worth. -/
noncomputable def Try.pinned : Pinned := { name := "ytcedbhgjabheaaa", sum := "c3941ac7234c0e9851086c1640047d1c3860f92a4cb8c1890e687036641f3249", checked := Try.checked }
namespace Rows
def none {H : Type} : Left H := { results := [], args := [] }

/-- 'laws.FnExactChanceLine': WHATEVER THE INPUT: true; the input reads as it did. -/
def fnExactChanceLineSpec : ChangeSpec := { name := "fnExactChanceLine", fn := fun _ => fun
  | [d] => { results := [.lit (.bool true)], args := [d] }
  | _ => none }
def fnExactChanceLineRow : OpenClaim := { program := "ytcedbhgjabheaaa", sum := "c3941ac7234c0e9851086c1640047d1c3860f92a4cb8c1890e687036641f3249", func := "loop.example/g01203/laws.FnExactChanceLine", spec := "fnExactChanceLine", unfollowed := true, recurses := true, apart := false }
def FnExactChanceLineSaid : Prop := fnExactChanceLineRow.holds Try.pinned (OpenSpec.ofChange fnExactChanceLineSpec)

/-- ITS FALSE NEIGHBOUR: 'it returns false'. Refute it at one input. -/
def fnExactChanceLineWrong : ChangeSpec := { name := "fnExactChanceLine", fn := fun _ => fun
  | [d] => { results := [.lit (.bool false)], args := [d] }
  | _ => none }
def FnExactChanceLineWrongFalsely : Prop := fnExactChanceLineRow.holds Try.pinned (OpenSpec.ofChange fnExactChanceLineWrong)

/-- 'laws.FnExactChanceKind': WHATEVER THE INPUT: true; the input reads as it did. -/
def fnExactChanceKindSpec : ChangeSpec := { name := "fnExactChanceKind", fn := fun _ => fun
  | [d] => { results := [.lit (.bool true)], args := [d] }
  | _ => none }
def fnExactChanceKindRow : OpenClaim := { program := "ytcedbhgjabheaaa", sum := "c3941ac7234c0e9851086c1640047d1c3860f92a4cb8c1890e687036641f3249", func := "loop.example/g01203/laws.FnExactChanceKind", spec := "fnExactChanceKind", unfollowed := true, recurses := true, apart := false }
def FnExactChanceKindSaid : Prop := fnExactChanceKindRow.holds Try.pinned (OpenSpec.ofChange fnExactChanceKindSpec)

/-- ITS FALSE NEIGHBOUR: 'it returns false'. Refute it at one input. -/
def fnExactChanceKindWrong : ChangeSpec := { name := "fnExactChanceKind", fn := fun _ => fun
  | [d] => { results := [.lit (.bool false)], args := [d] }
  | _ => none }
def FnExactChanceKindWrongFalsely : Prop := fnExactChanceKindRow.holds Try.pinned (OpenSpec.ofChange fnExactChanceKindWrong)

/-- 'laws.FnExactChanceBlocked': WHATEVER THE INPUT: true; the input reads as it did. -/
def fnExactChanceBlockedSpec : ChangeSpec := { name := "fnExactChanceBlocked", fn := fun _ => fun
  | [d] => { results := [.lit (.bool true)], args := [d] }
  | _ => none }
def fnExactChanceBlockedRow : OpenClaim := { program := "ytcedbhgjabheaaa", sum := "c3941ac7234c0e9851086c1640047d1c3860f92a4cb8c1890e687036641f3249", func := "loop.example/g01203/laws.FnExactChanceBlocked", spec := "fnExactChanceBlocked", unfollowed := true, recurses := true, apart := false }
def FnExactChanceBlockedSaid : Prop := fnExactChanceBlockedRow.holds Try.pinned (OpenSpec.ofChange fnExactChanceBlockedSpec)

/-- ITS FALSE NEIGHBOUR: 'it returns false'. Refute it at one input. -/
def fnExactChanceBlockedWrong : ChangeSpec := { name := "fnExactChanceBlocked", fn := fun _ => fun
  | [d] => { results := [.lit (.bool false)], args := [d] }
  | _ => none }
def FnExactChanceBlockedWrongFalsely : Prop := fnExactChanceBlockedRow.holds Try.pinned (OpenSpec.ofChange fnExactChanceBlockedWrong)

/-- 'laws.FnExactMeanLines': WHATEVER THE INPUT: true; the input reads as it did. -/
def fnExactMeanLinesSpec : ChangeSpec := { name := "fnExactMeanLines", fn := fun _ => fun
  | [d] => { results := [.lit (.bool true)], args := [d] }
  | _ => none }
def fnExactMeanLinesRow : OpenClaim := { program := "ytcedbhgjabheaaa", sum := "c3941ac7234c0e9851086c1640047d1c3860f92a4cb8c1890e687036641f3249", func := "loop.example/g01203/laws.FnExactMeanLines", spec := "fnExactMeanLines", apart := false }
def FnExactMeanLinesSaid : Prop := fnExactMeanLinesRow.holds Try.pinned (OpenSpec.ofChange fnExactMeanLinesSpec)

/-- ITS FALSE NEIGHBOUR: 'it returns false'. Refute it at one input. -/
def fnExactMeanLinesWrong : ChangeSpec := { name := "fnExactMeanLines", fn := fun _ => fun
  | [d] => { results := [.lit (.bool false)], args := [d] }
  | _ => none }
def FnExactMeanLinesWrongFalsely : Prop := fnExactMeanLinesRow.holds Try.pinned (OpenSpec.ofChange fnExactMeanLinesWrong)

/-- 'laws.FnExactMeanAfter': WHATEVER THE INPUT: true; the input reads as it did. -/
def fnExactMeanAfterSpec : ChangeSpec := { name := "fnExactMeanAfter", fn := fun _ => fun
  | [d1, d2] => { results := [.lit (.bool true)], args := [d1, d2] }
  | _ => none }
def fnExactMeanAfterRow : OpenClaim := { program := "ytcedbhgjabheaaa", sum := "c3941ac7234c0e9851086c1640047d1c3860f92a4cb8c1890e687036641f3249", func := "loop.example/g01203/laws.FnExactMeanAfter", spec := "fnExactMeanAfter", inPlace := ["slices.overlaps[[4]int]"], unfollowed := true, recurses := true, apart := false }
def FnExactMeanAfterSaid : Prop := fnExactMeanAfterRow.holds Try.pinned (OpenSpec.ofChange fnExactMeanAfterSpec)

/-- ITS FALSE NEIGHBOUR: 'it returns false'. Refute it at one input. -/
def fnExactMeanAfterWrong : ChangeSpec := { name := "fnExactMeanAfter", fn := fun _ => fun
  | [d1, d2] => { results := [.lit (.bool false)], args := [d1, d2] }
  | _ => none }
def FnExactMeanAfterWrongFalsely : Prop := fnExactMeanAfterRow.holds Try.pinned (OpenSpec.ofChange fnExactMeanAfterWrong)

/-- 'laws.FnExactChanceCap': WHATEVER THE INPUT: true; the input reads as it did. -/
def fnExactChanceCapSpec : ChangeSpec := { name := "fnExactChanceCap", fn := fun _ => fun
  | [d1, d2] => { results := [.lit (.bool true)], args := [d1, d2] }
  | _ => none }
def fnExactChanceCapRow : OpenClaim := { program := "ytcedbhgjabheaaa", sum := "c3941ac7234c0e9851086c1640047d1c3860f92a4cb8c1890e687036641f3249", func := "loop.example/g01203/laws.FnExactChanceCap", spec := "fnExactChanceCap", unfollowed := true, recurses := true, apart := false }
def FnExactChanceCapSaid : Prop := fnExactChanceCapRow.holds Try.pinned (OpenSpec.ofChange fnExactChanceCapSpec)

/-- ITS FALSE NEIGHBOUR: 'it returns false'. Refute it at one input. -/
def fnExactChanceCapWrong : ChangeSpec := { name := "fnExactChanceCap", fn := fun _ => fun
  | [d1, d2] => { results := [.lit (.bool false)], args := [d1, d2] }
  | _ => none }
def FnExactChanceCapWrongFalsely : Prop := fnExactChanceCapRow.holds Try.pinned (OpenSpec.ofChange fnExactChanceCapWrong)

/-- 'laws.FnExactChanceNoLine': WHATEVER THE INPUT: true; the input reads as it did. -/
def fnExactChanceNoLineSpec : ChangeSpec := { name := "fnExactChanceNoLine", fn := fun _ => fun
  | [d] => { results := [.lit (.bool true)], args := [d] }
  | _ => none }
def fnExactChanceNoLineRow : OpenClaim := { program := "ytcedbhgjabheaaa", sum := "c3941ac7234c0e9851086c1640047d1c3860f92a4cb8c1890e687036641f3249", func := "loop.example/g01203/laws.FnExactChanceNoLine", spec := "fnExactChanceNoLine", apart := false }
def FnExactChanceNoLineSaid : Prop := fnExactChanceNoLineRow.holds Try.pinned (OpenSpec.ofChange fnExactChanceNoLineSpec)

/-- ITS FALSE NEIGHBOUR: 'it returns false'. Refute it at one input. -/
def fnExactChanceNoLineWrong : ChangeSpec := { name := "fnExactChanceNoLine", fn := fun _ => fun
  | [d] => { results := [.lit (.bool false)], args := [d] }
  | _ => none }
def FnExactChanceNoLineWrongFalsely : Prop := fnExactChanceNoLineRow.holds Try.pinned (OpenSpec.ofChange fnExactChanceNoLineWrong)

/-- 'laws.FnExactChanceStays': WHATEVER THE INPUT: true; the input reads as it did. -/
def fnExactChanceStaysSpec : ChangeSpec := { name := "fnExactChanceStays", fn := fun _ => fun
  | [d] => { results := [.lit (.bool true)], args := [d] }
  | _ => none }
def fnExactChanceStaysRow : OpenClaim := { program := "ytcedbhgjabheaaa", sum := "c3941ac7234c0e9851086c1640047d1c3860f92a4cb8c1890e687036641f3249", func := "loop.example/g01203/laws.FnExactChanceStays", spec := "fnExactChanceStays", unfollowed := true, recurses := true, apart := false }
def FnExactChanceStaysSaid : Prop := fnExactChanceStaysRow.holds Try.pinned (OpenSpec.ofChange fnExactChanceStaysSpec)

/-- ITS FALSE NEIGHBOUR: 'it returns false'. Refute it at one input. -/
def fnExactChanceStaysWrong : ChangeSpec := { name := "fnExactChanceStays", fn := fun _ => fun
  | [d] => { results := [.lit (.bool false)], args := [d] }
  | _ => none }
def FnExactChanceStaysWrongFalsely : Prop := fnExactChanceStaysRow.holds Try.pinned (OpenSpec.ofChange fnExactChanceStaysWrong)

/-- 'laws.FnExactMeanDiffer': WHATEVER THE INPUT: true; the input reads as it did. -/
def fnExactMeanDifferSpec : ChangeSpec := { name := "fnExactMeanDiffer", fn := fun _ => fun
  | [d] => { results := [.lit (.bool true)], args := [d] }
  | _ => none }
def fnExactMeanDifferRow : OpenClaim := { program := "ytcedbhgjabheaaa", sum := "c3941ac7234c0e9851086c1640047d1c3860f92a4cb8c1890e687036641f3249", func := "loop.example/g01203/laws.FnExactMeanDiffer", spec := "fnExactMeanDiffer", unfollowed := true, recurses := true, apart := false }
def FnExactMeanDifferSaid : Prop := fnExactMeanDifferRow.holds Try.pinned (OpenSpec.ofChange fnExactMeanDifferSpec)

/-- ITS FALSE NEIGHBOUR: 'it returns false'. Refute it at one input. -/
def fnExactMeanDifferWrong : ChangeSpec := { name := "fnExactMeanDiffer", fn := fun _ => fun
  | [d] => { results := [.lit (.bool false)], args := [d] }
  | _ => none }
def FnExactMeanDifferWrongFalsely : Prop := fnExactMeanDifferRow.holds Try.pinned (OpenSpec.ofChange fnExactMeanDifferWrong)

/-- 'laws.FnExactBestThird': WHATEVER THE INPUT: true; the input reads as it did. -/
def fnExactBestThirdSpec : ChangeSpec := { name := "fnExactBestThird", fn := fun _ => fun
  | [d] => { results := [.lit (.bool true)], args := [d] }
  | _ => none }
def fnExactBestThirdRow : OpenClaim := { program := "ytcedbhgjabheaaa", sum := "c3941ac7234c0e9851086c1640047d1c3860f92a4cb8c1890e687036641f3249", func := "loop.example/g01203/laws.FnExactBestThird", spec := "fnExactBestThird", unfollowed := true, recurses := true, apart := false }
def FnExactBestThirdSaid : Prop := fnExactBestThirdRow.holds Try.pinned (OpenSpec.ofChange fnExactBestThirdSpec)

/-- ITS FALSE NEIGHBOUR: 'it returns false'. Refute it at one input. -/
def fnExactBestThirdWrong : ChangeSpec := { name := "fnExactBestThird", fn := fun _ => fun
  | [d] => { results := [.lit (.bool false)], args := [d] }
  | _ => none }
def FnExactBestThirdWrongFalsely : Prop := fnExactBestThirdRow.holds Try.pinned (OpenSpec.ofChange fnExactBestThirdWrong)

/-- 'laws.FnExactChanceTrait': WHATEVER THE INPUT: true; the input reads as it did. -/
def fnExactChanceTraitSpec : ChangeSpec := { name := "fnExactChanceTrait", fn := fun _ => fun
  | [d1, d2, d3] => { results := [.lit (.bool true)], args := [d1, d2, d3] }
  | _ => none }
def fnExactChanceTraitRow : OpenClaim := { program := "ytcedbhgjabheaaa", sum := "c3941ac7234c0e9851086c1640047d1c3860f92a4cb8c1890e687036641f3249", func := "loop.example/g01203/laws.FnExactChanceTrait", spec := "fnExactChanceTrait", unfollowed := true, recurses := true, apart := false }
def FnExactChanceTraitSaid : Prop := fnExactChanceTraitRow.holds Try.pinned (OpenSpec.ofChange fnExactChanceTraitSpec)

/-- ITS FALSE NEIGHBOUR: 'it returns false'. Refute it at one input. -/
def fnExactChanceTraitWrong : ChangeSpec := { name := "fnExactChanceTrait", fn := fun _ => fun
  | [d1, d2, d3] => { results := [.lit (.bool false)], args := [d1, d2, d3] }
  | _ => none }
def FnExactChanceTraitWrongFalsely : Prop := fnExactChanceTraitRow.holds Try.pinned (OpenSpec.ofChange fnExactChanceTraitWrong)

/- THE SECOND FORM. 'bulk': how many values and letters a reading holds, each counted each time it is reached (what is shared counts as often as it is met; a slice's spare places count too). A statement '..UptoSaid' is the law's where the arguments, and the package variables that the reading takes, are together of bulk at most 1048576: NARROWER than '..Said'. Prove '..Said' where nothing that the law and all that it calls make is longer than what came in: it says more and counts as full. Else prove '..UptoSaid'. A law counts once. -/
mutual
def uptoBulk {H : Type} : DataW H → Nat
  | .lit (.string bytes) => bytes.length + 1
  | .lit _ => 1
  | .nil => 1
  | .ptr d => uptoBulk d + 1
  | .slice elems spare => uptoBulkAll elems + uptoBulkAll spare + 1
  | .agg parts => uptoBulkAll parts + 1
  | .iface _ d => uptoBulk d + 1
  | .map entries => uptoBulkEntries entries + 1
  | .held _ => 1
def uptoBulkAll {H : Type} : List (DataW H) → Nat
  | [] => 0
  | d :: r => uptoBulk d + uptoBulkAll r
def uptoBulkEntries {H : Type} : List (Lit × DataW H) → Nat
  | [] => 0
  | x :: r => uptoBulkEntry x + uptoBulkEntries r
def uptoBulkEntry {H : Type} : Lit × DataW H → Nat
  | (.string bytes, d) => bytes.length + uptoBulk d + 1
  | (_, d) => uptoBulk d + 1
 end
def uptoSmall : (H : Type) → List (DataW H) → Bool := fun _ ds => decide (uptoBulkAll ds ≤ 1048576)
def OpenSpec.upto (s : _root_.Go.ChangeSpec) : _root_.Go.OpenSpec := { _root_.Go.OpenSpec.ofChange s with cond := some uptoSmall }

/-- 'laws.FnExactChanceLine', WHERE WHAT IT READS IS OF BULK AT MOST 1048576: true; the input reads as it did. -/
def fnExactChanceLineUptoRow : OpenClaim := { program := "ytcedbhgjabheaaa", sum := "c3941ac7234c0e9851086c1640047d1c3860f92a4cb8c1890e687036641f3249", func := "loop.example/g01203/laws.FnExactChanceLine", spec := "fnExactChanceLine", unfollowed := true, recurses := true, apart := false, narrowed := true }
def FnExactChanceLineUptoSaid : Prop := fnExactChanceLineUptoRow.holds Try.pinned (OpenSpec.upto fnExactChanceLineSpec)

/-- 'laws.FnExactChanceKind', WHERE WHAT IT READS IS OF BULK AT MOST 1048576: true; the input reads as it did. -/
def fnExactChanceKindUptoRow : OpenClaim := { program := "ytcedbhgjabheaaa", sum := "c3941ac7234c0e9851086c1640047d1c3860f92a4cb8c1890e687036641f3249", func := "loop.example/g01203/laws.FnExactChanceKind", spec := "fnExactChanceKind", unfollowed := true, recurses := true, apart := false, narrowed := true }
def FnExactChanceKindUptoSaid : Prop := fnExactChanceKindUptoRow.holds Try.pinned (OpenSpec.upto fnExactChanceKindSpec)

/-- 'laws.FnExactChanceBlocked', WHERE WHAT IT READS IS OF BULK AT MOST 1048576: true; the input reads as it did. -/
def fnExactChanceBlockedUptoRow : OpenClaim := { program := "ytcedbhgjabheaaa", sum := "c3941ac7234c0e9851086c1640047d1c3860f92a4cb8c1890e687036641f3249", func := "loop.example/g01203/laws.FnExactChanceBlocked", spec := "fnExactChanceBlocked", unfollowed := true, recurses := true, apart := false, narrowed := true }
def FnExactChanceBlockedUptoSaid : Prop := fnExactChanceBlockedUptoRow.holds Try.pinned (OpenSpec.upto fnExactChanceBlockedSpec)

/-- 'laws.FnExactMeanLines', WHERE WHAT IT READS IS OF BULK AT MOST 1048576: true; the input reads as it did. -/
def fnExactMeanLinesUptoRow : OpenClaim := { program := "ytcedbhgjabheaaa", sum := "c3941ac7234c0e9851086c1640047d1c3860f92a4cb8c1890e687036641f3249", func := "loop.example/g01203/laws.FnExactMeanLines", spec := "fnExactMeanLines", apart := false, narrowed := true }
def FnExactMeanLinesUptoSaid : Prop := fnExactMeanLinesUptoRow.holds Try.pinned (OpenSpec.upto fnExactMeanLinesSpec)

/-- 'laws.FnExactMeanAfter', WHERE WHAT IT READS IS OF BULK AT MOST 1048576: true; the input reads as it did. -/
def fnExactMeanAfterUptoRow : OpenClaim := { program := "ytcedbhgjabheaaa", sum := "c3941ac7234c0e9851086c1640047d1c3860f92a4cb8c1890e687036641f3249", func := "loop.example/g01203/laws.FnExactMeanAfter", spec := "fnExactMeanAfter", inPlace := ["slices.overlaps[[4]int]"], unfollowed := true, recurses := true, apart := false, narrowed := true }
def FnExactMeanAfterUptoSaid : Prop := fnExactMeanAfterUptoRow.holds Try.pinned (OpenSpec.upto fnExactMeanAfterSpec)

/-- 'laws.FnExactChanceCap', WHERE WHAT IT READS IS OF BULK AT MOST 1048576: true; the input reads as it did. -/
def fnExactChanceCapUptoRow : OpenClaim := { program := "ytcedbhgjabheaaa", sum := "c3941ac7234c0e9851086c1640047d1c3860f92a4cb8c1890e687036641f3249", func := "loop.example/g01203/laws.FnExactChanceCap", spec := "fnExactChanceCap", unfollowed := true, recurses := true, apart := false, narrowed := true }
def FnExactChanceCapUptoSaid : Prop := fnExactChanceCapUptoRow.holds Try.pinned (OpenSpec.upto fnExactChanceCapSpec)

/-- 'laws.FnExactChanceNoLine', WHERE WHAT IT READS IS OF BULK AT MOST 1048576: true; the input reads as it did. -/
def fnExactChanceNoLineUptoRow : OpenClaim := { program := "ytcedbhgjabheaaa", sum := "c3941ac7234c0e9851086c1640047d1c3860f92a4cb8c1890e687036641f3249", func := "loop.example/g01203/laws.FnExactChanceNoLine", spec := "fnExactChanceNoLine", apart := false, narrowed := true }
def FnExactChanceNoLineUptoSaid : Prop := fnExactChanceNoLineUptoRow.holds Try.pinned (OpenSpec.upto fnExactChanceNoLineSpec)

/-- 'laws.FnExactChanceStays', WHERE WHAT IT READS IS OF BULK AT MOST 1048576: true; the input reads as it did. -/
def fnExactChanceStaysUptoRow : OpenClaim := { program := "ytcedbhgjabheaaa", sum := "c3941ac7234c0e9851086c1640047d1c3860f92a4cb8c1890e687036641f3249", func := "loop.example/g01203/laws.FnExactChanceStays", spec := "fnExactChanceStays", unfollowed := true, recurses := true, apart := false, narrowed := true }
def FnExactChanceStaysUptoSaid : Prop := fnExactChanceStaysUptoRow.holds Try.pinned (OpenSpec.upto fnExactChanceStaysSpec)

/-- 'laws.FnExactMeanDiffer', WHERE WHAT IT READS IS OF BULK AT MOST 1048576: true; the input reads as it did. -/
def fnExactMeanDifferUptoRow : OpenClaim := { program := "ytcedbhgjabheaaa", sum := "c3941ac7234c0e9851086c1640047d1c3860f92a4cb8c1890e687036641f3249", func := "loop.example/g01203/laws.FnExactMeanDiffer", spec := "fnExactMeanDiffer", unfollowed := true, recurses := true, apart := false, narrowed := true }
def FnExactMeanDifferUptoSaid : Prop := fnExactMeanDifferUptoRow.holds Try.pinned (OpenSpec.upto fnExactMeanDifferSpec)

/-- 'laws.FnExactBestThird', WHERE WHAT IT READS IS OF BULK AT MOST 1048576: true; the input reads as it did. -/
def fnExactBestThirdUptoRow : OpenClaim := { program := "ytcedbhgjabheaaa", sum := "c3941ac7234c0e9851086c1640047d1c3860f92a4cb8c1890e687036641f3249", func := "loop.example/g01203/laws.FnExactBestThird", spec := "fnExactBestThird", unfollowed := true, recurses := true, apart := false, narrowed := true }
def FnExactBestThirdUptoSaid : Prop := fnExactBestThirdUptoRow.holds Try.pinned (OpenSpec.upto fnExactBestThirdSpec)

/-- 'laws.FnExactChanceTrait', WHERE WHAT IT READS IS OF BULK AT MOST 1048576: true; the input reads as it did. -/
def fnExactChanceTraitUptoRow : OpenClaim := { program := "ytcedbhgjabheaaa", sum := "c3941ac7234c0e9851086c1640047d1c3860f92a4cb8c1890e687036641f3249", func := "loop.example/g01203/laws.FnExactChanceTrait", spec := "fnExactChanceTrait", unfollowed := true, recurses := true, apart := false, narrowed := true }
def FnExactChanceTraitUptoSaid : Prop := fnExactChanceTraitUptoRow.holds Try.pinned (OpenSpec.upto fnExactChanceTraitSpec)

end Rows
end Go.Proofs.Ytcedbhgjabheaaa
