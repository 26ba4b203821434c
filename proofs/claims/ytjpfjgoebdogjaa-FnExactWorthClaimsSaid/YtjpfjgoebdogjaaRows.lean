/-
  No cell of these rows narrows 'for every input' (looked for: loops, veiled, ifaces, maps, wideKeys, modest, calm, conditions, laid).
  DERIVED. THE GIVEN ROWS OF THIS SEAT. 3 by the template 'for every input the law returns true; each argument reads behind the call as it read before'; 0 by the template 'total and deterministic' (their statements: YtjpfjgoebdogjaaTotals.lean).
  GIVEN WITH THE SEED: the statements are not yours to turn. If you find one false, say at which input.
  Laid BY PROGRAM, IN A SANDBOX (cutbox-rows.mjs): the forced cells as the released guide's own fill.sh prints them over the translation 36b03ea2b2b26e56… (all of the seat's roots in one cut). By AI agents, Wed Nov 11 2026. No macro, syntax, notation, axiom, sorry.
-/
import Derived.Test.YtjpfjgoebdogjaaChecked
import GoSem.Claim
import GoSem.ClaimJoined
import GoSem.ClaimMapViews
import Derived.JoinedTies
import Derived.KernelRfl
namespace Go.Proofs.Ytjpfjgoebdogjaa
/- THE CELL 'sum', in the pinned program and in every row, IS THE sha256 OF THE DUMP (.gsa) THAT YtjpfjgoebdogjaaProg.lean LOADS. Nothing in Lean hashes anything: it is a label: what it is worth is what the hold of that sum in a sandbox is worth. -/
noncomputable def Try.pinned : Pinned := { name := "ytjpfjgoebdogjaa", sum := "36b03ea2b2b26e5634703cb452e8ab48757130e52f4ab2204825046e5846ffdb", checked := Try.checked }
namespace Rows
def none {H : Type} : Left H := { results := [], args := [] }

/-- 'laws.FnExactRunClaims': WHATEVER THE INPUT: true; the input reads as it did. -/
def fnExactRunClaimsSpec : ChangeSpec := { name := "fnExactRunClaims", fn := fun _ => fun
  | [d1, d2] => { results := [.lit (.bool true)], args := [d1, d2] }
  | _ => none }
def fnExactRunClaimsRow : OpenClaim := { program := "ytjpfjgoebdogjaa", sum := "36b03ea2b2b26e5634703cb452e8ab48757130e52f4ab2204825046e5846ffdb", func := "loop.example/g01203/laws.FnExactRunClaims", spec := "fnExactRunClaims", unfollowed := true, recurses := true, apart := false }
def FnExactRunClaimsSaid : Prop := fnExactRunClaimsRow.holds Try.pinned (OpenSpec.ofChange fnExactRunClaimsSpec)

/-- ITS FALSE NEIGHBOUR: 'it returns false'. Refute it at one input. -/
def fnExactRunClaimsWrong : ChangeSpec := { name := "fnExactRunClaims", fn := fun _ => fun
  | [d1, d2] => { results := [.lit (.bool false)], args := [d1, d2] }
  | _ => none }
def FnExactRunClaimsWrongFalsely : Prop := fnExactRunClaimsRow.holds Try.pinned (OpenSpec.ofChange fnExactRunClaimsWrong)

/-- 'laws.FnExactRankGame': WHATEVER THE INPUT: true; the input reads as it did. -/
def fnExactRankGameSpec : ChangeSpec := { name := "fnExactRankGame", fn := fun _ => fun
  | [d] => { results := [.lit (.bool true)], args := [d] }
  | _ => none }
def fnExactRankGameRow : OpenClaim := { program := "ytjpfjgoebdogjaa", sum := "36b03ea2b2b26e5634703cb452e8ab48757130e52f4ab2204825046e5846ffdb", func := "loop.example/g01203/laws.FnExactRankGame", spec := "fnExactRankGame", unfollowed := true, recurses := true, apart := false }
def FnExactRankGameSaid : Prop := fnExactRankGameRow.holds Try.pinned (OpenSpec.ofChange fnExactRankGameSpec)

/-- ITS FALSE NEIGHBOUR: 'it returns false'. Refute it at one input. -/
def fnExactRankGameWrong : ChangeSpec := { name := "fnExactRankGame", fn := fun _ => fun
  | [d] => { results := [.lit (.bool false)], args := [d] }
  | _ => none }
def FnExactRankGameWrongFalsely : Prop := fnExactRankGameRow.holds Try.pinned (OpenSpec.ofChange fnExactRankGameWrong)

/-- 'laws.FnExactWorthClaims': WHATEVER THE INPUT: true; the input reads as it did. -/
def fnExactWorthClaimsSpec : ChangeSpec := { name := "fnExactWorthClaims", fn := fun _ => fun
  | [d1, d2, d3] => { results := [.lit (.bool true)], args := [d1, d2, d3] }
  | _ => none }
def fnExactWorthClaimsRow : OpenClaim := { program := "ytjpfjgoebdogjaa", sum := "36b03ea2b2b26e5634703cb452e8ab48757130e52f4ab2204825046e5846ffdb", func := "loop.example/g01203/laws.FnExactWorthClaims", spec := "fnExactWorthClaims", unfollowed := true, recurses := true, apart := false }
def FnExactWorthClaimsSaid : Prop := fnExactWorthClaimsRow.holds Try.pinned (OpenSpec.ofChange fnExactWorthClaimsSpec)

/-- ITS FALSE NEIGHBOUR: 'it returns false'. Refute it at one input. -/
def fnExactWorthClaimsWrong : ChangeSpec := { name := "fnExactWorthClaims", fn := fun _ => fun
  | [d1, d2, d3] => { results := [.lit (.bool false)], args := [d1, d2, d3] }
  | _ => none }
def FnExactWorthClaimsWrongFalsely : Prop := fnExactWorthClaimsRow.holds Try.pinned (OpenSpec.ofChange fnExactWorthClaimsWrong)

/- THE SECOND FORM. 'bulk': how many values and letters a reading holds, each counted each time it is reached (what is shared counts as often as it is met; a slice's spare places count too). A statement '..UptoSaid' is the law's where the arguments, and the package variables that the reading takes, are together of bulk at most 1048576: NARROWER than '..Said'. Prove '..Said' where nothing that the law and all that it calls make is longer than what came in: it says more and counts as full. Else prove '..UptoSaid'. A law counts once. -/
mutual
def uptoBulk {H : Type} : DataW H → Nat
  | .lit (.string bytes) => bytes.length + 1
  | .lit _ => 1
  | .nil => 1
  | .ptr d => uptoBulk d + 1
  | .slice elems spare => uptoBulkAll elems + uptoBulkAll spare + 1
  | .agg parts => uptoBulkAll parts + 1
  | .iface _ d => uptoBulk d + 1
  | .map entries => uptoBulkEntries entries + 1
  | .held _ => 1
def uptoBulkAll {H : Type} : List (DataW H) → Nat
  | [] => 0
  | d :: r => uptoBulk d + uptoBulkAll r
def uptoBulkEntries {H : Type} : List (Lit × DataW H) → Nat
  | [] => 0
  | x :: r => uptoBulkEntry x + uptoBulkEntries r
def uptoBulkEntry {H : Type} : Lit × DataW H → Nat
  | (.string bytes, d) => bytes.length + uptoBulk d + 1
  | (_, d) => uptoBulk d + 1
 end
def uptoSmall : (H : Type) → List (DataW H) → Bool := fun _ ds => decide (uptoBulkAll ds ≤ 1048576)
def OpenSpec.upto (s : _root_.Go.ChangeSpec) : _root_.Go.OpenSpec := { _root_.Go.OpenSpec.ofChange s with cond := some uptoSmall }

/-- 'laws.FnExactRunClaims', WHERE WHAT IT READS IS OF BULK AT MOST 1048576: true; the input reads as it did. -/
def fnExactRunClaimsUptoRow : OpenClaim := { program := "ytjpfjgoebdogjaa", sum := "36b03ea2b2b26e5634703cb452e8ab48757130e52f4ab2204825046e5846ffdb", func := "loop.example/g01203/laws.FnExactRunClaims", spec := "fnExactRunClaims", unfollowed := true, recurses := true, apart := false, narrowed := true }
def FnExactRunClaimsUptoSaid : Prop := fnExactRunClaimsUptoRow.holds Try.pinned (OpenSpec.upto fnExactRunClaimsSpec)

/-- 'laws.FnExactRankGame', WHERE WHAT IT READS IS OF BULK AT MOST 1048576: true; the input reads as it did. -/
def fnExactRankGameUptoRow : OpenClaim := { program := "ytjpfjgoebdogjaa", sum := "36b03ea2b2b26e5634703cb452e8ab48757130e52f4ab2204825046e5846ffdb", func := "loop.example/g01203/laws.FnExactRankGame", spec := "fnExactRankGame", unfollowed := true, recurses := true, apart := false, narrowed := true }
def FnExactRankGameUptoSaid : Prop := fnExactRankGameUptoRow.holds Try.pinned (OpenSpec.upto fnExactRankGameSpec)

/-- 'laws.FnExactWorthClaims', WHERE WHAT IT READS IS OF BULK AT MOST 1048576: true; the input reads as it did. -/
def fnExactWorthClaimsUptoRow : OpenClaim := { program := "ytjpfjgoebdogjaa", sum := "36b03ea2b2b26e5634703cb452e8ab48757130e52f4ab2204825046e5846ffdb", func := "loop.example/g01203/laws.FnExactWorthClaims", spec := "fnExactWorthClaims", unfollowed := true, recurses := true, apart := false, narrowed := true }
def FnExactWorthClaimsUptoSaid : Prop := fnExactWorthClaimsUptoRow.holds Try.pinned (OpenSpec.upto fnExactWorthClaimsSpec)

end Rows
end Go.Proofs.Ytjpfjgoebdogjaa
