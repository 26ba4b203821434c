/-
  No cell of these rows narrows 'for every input' (looked for: loops, veiled, ifaces, maps, wideKeys, modest, calm, conditions, laid).
  DERIVED. THE GIVEN ROWS OF THIS SEAT. 12 by the template 'for every input the law returns true; each argument reads behind the call as it read before'; 0 by the template 'total and deterministic' (their statements: YtbimbaogjknboaaTotals.lean).
  GIVEN WITH THE SEED: the statements are not yours to turn. If you find one false, say at which input.
  Laid BY PROGRAM, IN A SANDBOX (cutbox-rows.mjs): the forced cells as the released guide's own fill.sh prints them over the translation 9f858ee23e701773… (all of the seat's roots in one cut). By AI agents, Wed Nov 11 2026. No macro, syntax, notation, axiom, sorry.
-/
import Derived.Test.YtbimbaogjknboaaChecked
import GoSem.Claim
import GoSem.ClaimJoined
import GoSem.ClaimMapViews
import Derived.JoinedTies
import Derived.KernelRfl
namespace Go.Proofs.Ytbimbaogjknboaa
/- THE CELL 'sum', in the pinned program and in every row, IS THE sha256 OF THE DUMP (.gsa) THAT YtbimbaogjknboaaProg.lean LOADS. Nothing in Lean hashes anything: it is a label: what it is worth is what the hold of that sum in a sandbox is worth. -/
noncomputable def Try.pinned : Pinned := { name := "ytbimbaogjknboaa", sum := "9f858ee23e701773ed7e2e7af505b64c2bead25cdd9fdd6a3358e4e41bd9c156", checked := Try.checked }
namespace Rows
def none {H : Type} : Left H := { results := [], args := [] }

/-- 'laws.FnExactIsCap': WHATEVER THE INPUT: true; the input reads as it did. -/
def fnExactIsCapSpec : ChangeSpec := { name := "fnExactIsCap", fn := fun _ => fun
  | [d] => { results := [.lit (.bool true)], args := [d] }
  | _ => none }
def fnExactIsCapRow : OpenClaim := { program := "ytbimbaogjknboaa", sum := "9f858ee23e701773ed7e2e7af505b64c2bead25cdd9fdd6a3358e4e41bd9c156", func := "loop.example/g01203/laws.FnExactIsCap", spec := "fnExactIsCap", unfollowed := true, recurses := true, plainKeys := false, apart := false }
def FnExactIsCapSaid : Prop := fnExactIsCapRow.holds Try.pinned (OpenSpec.ofChange fnExactIsCapSpec)

/-- ITS FALSE NEIGHBOUR: 'it returns false'. Refute it at one input. -/
def fnExactIsCapWrong : ChangeSpec := { name := "fnExactIsCap", fn := fun _ => fun
  | [d] => { results := [.lit (.bool false)], args := [d] }
  | _ => none }
def FnExactIsCapWrongFalsely : Prop := fnExactIsCapRow.holds Try.pinned (OpenSpec.ofChange fnExactIsCapWrong)

/-- 'laws.FnExactBlockedCards': WHATEVER THE INPUT: true; the input reads as it did. -/
def fnExactBlockedCardsSpec : ChangeSpec := { name := "fnExactBlockedCards", fn := fun _ => fun
  | [d] => { results := [.lit (.bool true)], args := [d] }
  | _ => none }
def fnExactBlockedCardsRow : OpenClaim := { program := "ytbimbaogjknboaa", sum := "9f858ee23e701773ed7e2e7af505b64c2bead25cdd9fdd6a3358e4e41bd9c156", func := "loop.example/g01203/laws.FnExactBlockedCards", spec := "fnExactBlockedCards", unfollowed := true, recurses := true, plainKeys := false, apart := false }
def FnExactBlockedCardsSaid : Prop := fnExactBlockedCardsRow.holds Try.pinned (OpenSpec.ofChange fnExactBlockedCardsSpec)

/-- ITS FALSE NEIGHBOUR: 'it returns false'. Refute it at one input. -/
def fnExactBlockedCardsWrong : ChangeSpec := { name := "fnExactBlockedCards", fn := fun _ => fun
  | [d] => { results := [.lit (.bool false)], args := [d] }
  | _ => none }
def FnExactBlockedCardsWrongFalsely : Prop := fnExactBlockedCardsRow.holds Try.pinned (OpenSpec.ofChange fnExactBlockedCardsWrong)

/-- 'laws.FnExactFreeCards': WHATEVER THE INPUT: true; the input reads as it did. -/
def fnExactFreeCardsSpec : ChangeSpec := { name := "fnExactFreeCards", fn := fun _ => fun
  | [d] => { results := [.lit (.bool true)], args := [d] }
  | _ => none }
def fnExactFreeCardsRow : OpenClaim := { program := "ytbimbaogjknboaa", sum := "9f858ee23e701773ed7e2e7af505b64c2bead25cdd9fdd6a3358e4e41bd9c156", func := "loop.example/g01203/laws.FnExactFreeCards", spec := "fnExactFreeCards", unfollowed := true, recurses := true, plainKeys := false, apart := false }
def FnExactFreeCardsSaid : Prop := fnExactFreeCardsRow.holds Try.pinned (OpenSpec.ofChange fnExactFreeCardsSpec)

/-- ITS FALSE NEIGHBOUR: 'it returns false'. Refute it at one input. -/
def fnExactFreeCardsWrong : ChangeSpec := { name := "fnExactFreeCards", fn := fun _ => fun
  | [d] => { results := [.lit (.bool false)], args := [d] }
  | _ => none }
def FnExactFreeCardsWrongFalsely : Prop := fnExactFreeCardsRow.holds Try.pinned (OpenSpec.ofChange fnExactFreeCardsWrong)

/-- 'laws.FnExactIsFullCap': WHATEVER THE INPUT: true; the input reads as it did. -/
def fnExactIsFullCapSpec : ChangeSpec := { name := "fnExactIsFullCap", fn := fun _ => fun
  | [d] => { results := [.lit (.bool true)], args := [d] }
  | _ => none }
def fnExactIsFullCapRow : OpenClaim := { program := "ytbimbaogjknboaa", sum := "9f858ee23e701773ed7e2e7af505b64c2bead25cdd9fdd6a3358e4e41bd9c156", func := "loop.example/g01203/laws.FnExactIsFullCap", spec := "fnExactIsFullCap", unfollowed := true, recurses := true, plainKeys := false, apart := false }
def FnExactIsFullCapSaid : Prop := fnExactIsFullCapRow.holds Try.pinned (OpenSpec.ofChange fnExactIsFullCapSpec)

/-- ITS FALSE NEIGHBOUR: 'it returns false'. Refute it at one input. -/
def fnExactIsFullCapWrong : ChangeSpec := { name := "fnExactIsFullCap", fn := fun _ => fun
  | [d] => { results := [.lit (.bool false)], args := [d] }
  | _ => none }
def FnExactIsFullCapWrongFalsely : Prop := fnExactIsFullCapRow.holds Try.pinned (OpenSpec.ofChange fnExactIsFullCapWrong)

/-- 'laws.FnExactFillCap': WHATEVER THE INPUT: true; the input reads as it did. -/
def fnExactFillCapSpec : ChangeSpec := { name := "fnExactFillCap", fn := fun _ => fun
  | [d] => { results := [.lit (.bool true)], args := [d] }
  | _ => none }
def fnExactFillCapRow : OpenClaim := { program := "ytbimbaogjknboaa", sum := "9f858ee23e701773ed7e2e7af505b64c2bead25cdd9fdd6a3358e4e41bd9c156", func := "loop.example/g01203/laws.FnExactFillCap", spec := "fnExactFillCap", inPlace := ["slices.overlaps[[4]int]"], unfollowed := true, recurses := true, plainKeys := false, apart := false }
def FnExactFillCapSaid : Prop := fnExactFillCapRow.holds Try.pinned (OpenSpec.ofChange fnExactFillCapSpec)

/-- ITS FALSE NEIGHBOUR: 'it returns false'. Refute it at one input. -/
def fnExactFillCapWrong : ChangeSpec := { name := "fnExactFillCap", fn := fun _ => fun
  | [d] => { results := [.lit (.bool false)], args := [d] }
  | _ => none }
def FnExactFillCapWrongFalsely : Prop := fnExactFillCapRow.holds Try.pinned (OpenSpec.ofChange fnExactFillCapWrong)

/-- 'laws.FnExactGreedyCap': WHATEVER THE INPUT: true; the input reads as it did. -/
def fnExactGreedyCapSpec : ChangeSpec := { name := "fnExactGreedyCap", fn := fun _ => fun
  | [d] => { results := [.lit (.bool true)], args := [d] }
  | _ => none }
def fnExactGreedyCapRow : OpenClaim := { program := "ytbimbaogjknboaa", sum := "9f858ee23e701773ed7e2e7af505b64c2bead25cdd9fdd6a3358e4e41bd9c156", func := "loop.example/g01203/laws.FnExactGreedyCap", spec := "fnExactGreedyCap", unfollowed := true, recurses := true, plainKeys := false, apart := false }
def FnExactGreedyCapSaid : Prop := fnExactGreedyCapRow.holds Try.pinned (OpenSpec.ofChange fnExactGreedyCapSpec)

/-- ITS FALSE NEIGHBOUR: 'it returns false'. Refute it at one input. -/
def fnExactGreedyCapWrong : ChangeSpec := { name := "fnExactGreedyCap", fn := fun _ => fun
  | [d] => { results := [.lit (.bool false)], args := [d] }
  | _ => none }
def FnExactGreedyCapWrongFalsely : Prop := fnExactGreedyCapRow.holds Try.pinned (OpenSpec.ofChange fnExactGreedyCapWrong)

/-- 'laws.FnExactGreatestCap': WHATEVER THE INPUT: true; the input reads as it did. -/
def fnExactGreatestCapSpec : ChangeSpec := { name := "fnExactGreatestCap", fn := fun _ => fun
  | [d] => { results := [.lit (.bool true)], args := [d] }
  | _ => none }
def fnExactGreatestCapRow : OpenClaim := { program := "ytbimbaogjknboaa", sum := "9f858ee23e701773ed7e2e7af505b64c2bead25cdd9fdd6a3358e4e41bd9c156", func := "loop.example/g01203/laws.FnExactGreatestCap", spec := "fnExactGreatestCap", unfollowed := true, recurses := true, plainKeys := false, apart := false }
def FnExactGreatestCapSaid : Prop := fnExactGreatestCapRow.holds Try.pinned (OpenSpec.ofChange fnExactGreatestCapSpec)

/-- ITS FALSE NEIGHBOUR: 'it returns false'. Refute it at one input. -/
def fnExactGreatestCapWrong : ChangeSpec := { name := "fnExactGreatestCap", fn := fun _ => fun
  | [d] => { results := [.lit (.bool false)], args := [d] }
  | _ => none }
def FnExactGreatestCapWrongFalsely : Prop := fnExactGreatestCapRow.holds Try.pinned (OpenSpec.ofChange fnExactGreatestCapWrong)

/-- 'laws.FnExactCountCaps': WHATEVER THE INPUT: true; the input reads as it did. -/
def fnExactCountCapsSpec : ChangeSpec := { name := "fnExactCountCaps", fn := fun _ => fun
  | [d1, d2] => { results := [.lit (.bool true)], args := [d1, d2] }
  | _ => none }
def fnExactCountCapsRow : OpenClaim := { program := "ytbimbaogjknboaa", sum := "9f858ee23e701773ed7e2e7af505b64c2bead25cdd9fdd6a3358e4e41bd9c156", func := "loop.example/g01203/laws.FnExactCountCaps", spec := "fnExactCountCaps", unfollowed := true, recurses := true, plainKeys := false, apart := false }
def FnExactCountCapsSaid : Prop := fnExactCountCapsRow.holds Try.pinned (OpenSpec.ofChange fnExactCountCapsSpec)

/-- ITS FALSE NEIGHBOUR: 'it returns false'. Refute it at one input. -/
def fnExactCountCapsWrong : ChangeSpec := { name := "fnExactCountCaps", fn := fun _ => fun
  | [d1, d2] => { results := [.lit (.bool false)], args := [d1, d2] }
  | _ => none }
def FnExactCountCapsWrongFalsely : Prop := fnExactCountCapsRow.holds Try.pinned (OpenSpec.ofChange fnExactCountCapsWrong)

/-- 'laws.FnExactFewestDrops': WHATEVER THE INPUT: true; the input reads as it did. -/
def fnExactFewestDropsSpec : ChangeSpec := { name := "fnExactFewestDrops", fn := fun _ => fun
  | [d] => { results := [.lit (.bool true)], args := [d] }
  | _ => none }
def fnExactFewestDropsRow : OpenClaim := { program := "ytbimbaogjknboaa", sum := "9f858ee23e701773ed7e2e7af505b64c2bead25cdd9fdd6a3358e4e41bd9c156", func := "loop.example/g01203/laws.FnExactFewestDrops", spec := "fnExactFewestDrops", unfollowed := true, recurses := true, plainKeys := false, apart := false }
def FnExactFewestDropsSaid : Prop := fnExactFewestDropsRow.holds Try.pinned (OpenSpec.ofChange fnExactFewestDropsSpec)

/-- ITS FALSE NEIGHBOUR: 'it returns false'. Refute it at one input. -/
def fnExactFewestDropsWrong : ChangeSpec := { name := "fnExactFewestDrops", fn := fun _ => fun
  | [d] => { results := [.lit (.bool false)], args := [d] }
  | _ => none }
def FnExactFewestDropsWrongFalsely : Prop := fnExactFewestDropsRow.holds Try.pinned (OpenSpec.ofChange fnExactFewestDropsWrong)

/-- 'laws.FnExactAnchorsOf': WHATEVER THE INPUT: true; the input reads as it did. -/
def fnExactAnchorsOfSpec : ChangeSpec := { name := "fnExactAnchorsOf", fn := fun _ => fun
  | [d] => { results := [.lit (.bool true)], args := [d] }
  | _ => none }
def fnExactAnchorsOfRow : OpenClaim := { program := "ytbimbaogjknboaa", sum := "9f858ee23e701773ed7e2e7af505b64c2bead25cdd9fdd6a3358e4e41bd9c156", func := "loop.example/g01203/laws.FnExactAnchorsOf", spec := "fnExactAnchorsOf", unfollowed := true, recurses := true, plainKeys := false, apart := false }
def FnExactAnchorsOfSaid : Prop := fnExactAnchorsOfRow.holds Try.pinned (OpenSpec.ofChange fnExactAnchorsOfSpec)

/-- ITS FALSE NEIGHBOUR: 'it returns false'. Refute it at one input. -/
def fnExactAnchorsOfWrong : ChangeSpec := { name := "fnExactAnchorsOf", fn := fun _ => fun
  | [d] => { results := [.lit (.bool false)], args := [d] }
  | _ => none }
def FnExactAnchorsOfWrongFalsely : Prop := fnExactAnchorsOfRow.holds Try.pinned (OpenSpec.ofChange fnExactAnchorsOfWrong)

/-- 'laws.FnExactJoinCaps': WHATEVER THE INPUT: true; the input reads as it did. -/
def fnExactJoinCapsSpec : ChangeSpec := { name := "fnExactJoinCaps", fn := fun _ => fun
  | [d1, d2] => { results := [.lit (.bool true)], args := [d1, d2] }
  | _ => none }
def fnExactJoinCapsRow : OpenClaim := { program := "ytbimbaogjknboaa", sum := "9f858ee23e701773ed7e2e7af505b64c2bead25cdd9fdd6a3358e4e41bd9c156", func := "loop.example/g01203/laws.FnExactJoinCaps", spec := "fnExactJoinCaps", unfollowed := true, recurses := true, plainKeys := false, apart := false }
def FnExactJoinCapsSaid : Prop := fnExactJoinCapsRow.holds Try.pinned (OpenSpec.ofChange fnExactJoinCapsSpec)

/-- ITS FALSE NEIGHBOUR: 'it returns false'. Refute it at one input. -/
def fnExactJoinCapsWrong : ChangeSpec := { name := "fnExactJoinCaps", fn := fun _ => fun
  | [d1, d2] => { results := [.lit (.bool false)], args := [d1, d2] }
  | _ => none }
def FnExactJoinCapsWrongFalsely : Prop := fnExactJoinCapsRow.holds Try.pinned (OpenSpec.ofChange fnExactJoinCapsWrong)

/-- 'laws.FnExactCapLines': WHATEVER THE INPUT: true; the input reads as it did. -/
def fnExactCapLinesSpec : ChangeSpec := { name := "fnExactCapLines", fn := fun _ => fun
  | [d1, d2] => { results := [.lit (.bool true)], args := [d1, d2] }
  | _ => none }
def fnExactCapLinesRow : OpenClaim := { program := "ytbimbaogjknboaa", sum := "9f858ee23e701773ed7e2e7af505b64c2bead25cdd9fdd6a3358e4e41bd9c156", func := "loop.example/g01203/laws.FnExactCapLines", spec := "fnExactCapLines", unfollowed := true, recurses := true, plainKeys := false, apart := false }
def FnExactCapLinesSaid : Prop := fnExactCapLinesRow.holds Try.pinned (OpenSpec.ofChange fnExactCapLinesSpec)

/-- ITS FALSE NEIGHBOUR: 'it returns false'. Refute it at one input. -/
def fnExactCapLinesWrong : ChangeSpec := { name := "fnExactCapLines", fn := fun _ => fun
  | [d1, d2] => { results := [.lit (.bool false)], args := [d1, d2] }
  | _ => none }
def FnExactCapLinesWrongFalsely : Prop := fnExactCapLinesRow.holds Try.pinned (OpenSpec.ofChange fnExactCapLinesWrong)

/- THE SECOND FORM. 'bulk': how many values and letters a reading holds, each counted each time it is reached (what is shared counts as often as it is met; a slice's spare places count too). A statement '..UptoSaid' is the law's where the arguments, and the package variables that the reading takes, are together of bulk at most 1048576: NARROWER than '..Said'. Prove '..Said' where nothing that the law and all that it calls make is longer than what came in: it says more and counts as full. Else prove '..UptoSaid'. A law counts once. -/
mutual
def uptoBulk {H : Type} : DataW H → Nat
  | .lit (.string bytes) => bytes.length + 1
  | .lit _ => 1
  | .nil => 1
  | .ptr d => uptoBulk d + 1
  | .slice elems spare => uptoBulkAll elems + uptoBulkAll spare + 1
  | .agg parts => uptoBulkAll parts + 1
  | .iface _ d => uptoBulk d + 1
  | .map entries => uptoBulkEntries entries + 1
  | .held _ => 1
def uptoBulkAll {H : Type} : List (DataW H) → Nat
  | [] => 0
  | d :: r => uptoBulk d + uptoBulkAll r
def uptoBulkEntries {H : Type} : List (Lit × DataW H) → Nat
  | [] => 0
  | x :: r => uptoBulkEntry x + uptoBulkEntries r
def uptoBulkEntry {H : Type} : Lit × DataW H → Nat
  | (.string bytes, d) => bytes.length + uptoBulk d + 1
  | (_, d) => uptoBulk d + 1
 end
def uptoSmall : (H : Type) → List (DataW H) → Bool := fun _ ds => decide (uptoBulkAll ds ≤ 1048576)
def OpenSpec.upto (s : _root_.Go.ChangeSpec) : _root_.Go.OpenSpec := { _root_.Go.OpenSpec.ofChange s with cond := some uptoSmall }

/-- 'laws.FnExactIsCap', WHERE WHAT IT READS IS OF BULK AT MOST 1048576: true; the input reads as it did. -/
def fnExactIsCapUptoRow : OpenClaim := { program := "ytbimbaogjknboaa", sum := "9f858ee23e701773ed7e2e7af505b64c2bead25cdd9fdd6a3358e4e41bd9c156", func := "loop.example/g01203/laws.FnExactIsCap", spec := "fnExactIsCap", unfollowed := true, recurses := true, plainKeys := false, apart := false, narrowed := true }
def FnExactIsCapUptoSaid : Prop := fnExactIsCapUptoRow.holds Try.pinned (OpenSpec.upto fnExactIsCapSpec)

/-- 'laws.FnExactBlockedCards', WHERE WHAT IT READS IS OF BULK AT MOST 1048576: true; the input reads as it did. -/
def fnExactBlockedCardsUptoRow : OpenClaim := { program := "ytbimbaogjknboaa", sum := "9f858ee23e701773ed7e2e7af505b64c2bead25cdd9fdd6a3358e4e41bd9c156", func := "loop.example/g01203/laws.FnExactBlockedCards", spec := "fnExactBlockedCards", unfollowed := true, recurses := true, plainKeys := false, apart := false, narrowed := true }
def FnExactBlockedCardsUptoSaid : Prop := fnExactBlockedCardsUptoRow.holds Try.pinned (OpenSpec.upto fnExactBlockedCardsSpec)

/-- 'laws.FnExactFreeCards', WHERE WHAT IT READS IS OF BULK AT MOST 1048576: true; the input reads as it did. -/
def fnExactFreeCardsUptoRow : OpenClaim := { program := "ytbimbaogjknboaa", sum := "9f858ee23e701773ed7e2e7af505b64c2bead25cdd9fdd6a3358e4e41bd9c156", func := "loop.example/g01203/laws.FnExactFreeCards", spec := "fnExactFreeCards", unfollowed := true, recurses := true, plainKeys := false, apart := false, narrowed := true }
def FnExactFreeCardsUptoSaid : Prop := fnExactFreeCardsUptoRow.holds Try.pinned (OpenSpec.upto fnExactFreeCardsSpec)

/-- 'laws.FnExactIsFullCap', WHERE WHAT IT READS IS OF BULK AT MOST 1048576: true; the input reads as it did. -/
def fnExactIsFullCapUptoRow : OpenClaim := { program := "ytbimbaogjknboaa", sum := "9f858ee23e701773ed7e2e7af505b64c2bead25cdd9fdd6a3358e4e41bd9c156", func := "loop.example/g01203/laws.FnExactIsFullCap", spec := "fnExactIsFullCap", unfollowed := true, recurses := true, plainKeys := false, apart := false, narrowed := true }
def FnExactIsFullCapUptoSaid : Prop := fnExactIsFullCapUptoRow.holds Try.pinned (OpenSpec.upto fnExactIsFullCapSpec)

/-- 'laws.FnExactFillCap', WHERE WHAT IT READS IS OF BULK AT MOST 1048576: true; the input reads as it did. -/
def fnExactFillCapUptoRow : OpenClaim := { program := "ytbimbaogjknboaa", sum := "9f858ee23e701773ed7e2e7af505b64c2bead25cdd9fdd6a3358e4e41bd9c156", func := "loop.example/g01203/laws.FnExactFillCap", spec := "fnExactFillCap", inPlace := ["slices.overlaps[[4]int]"], unfollowed := true, recurses := true, plainKeys := false, apart := false, narrowed := true }
def FnExactFillCapUptoSaid : Prop := fnExactFillCapUptoRow.holds Try.pinned (OpenSpec.upto fnExactFillCapSpec)

/-- 'laws.FnExactGreedyCap', WHERE WHAT IT READS IS OF BULK AT MOST 1048576: true; the input reads as it did. -/
def fnExactGreedyCapUptoRow : OpenClaim := { program := "ytbimbaogjknboaa", sum := "9f858ee23e701773ed7e2e7af505b64c2bead25cdd9fdd6a3358e4e41bd9c156", func := "loop.example/g01203/laws.FnExactGreedyCap", spec := "fnExactGreedyCap", unfollowed := true, recurses := true, plainKeys := false, apart := false, narrowed := true }
def FnExactGreedyCapUptoSaid : Prop := fnExactGreedyCapUptoRow.holds Try.pinned (OpenSpec.upto fnExactGreedyCapSpec)

/-- 'laws.FnExactGreatestCap', WHERE WHAT IT READS IS OF BULK AT MOST 1048576: true; the input reads as it did. -/
def fnExactGreatestCapUptoRow : OpenClaim := { program := "ytbimbaogjknboaa", sum := "9f858ee23e701773ed7e2e7af505b64c2bead25cdd9fdd6a3358e4e41bd9c156", func := "loop.example/g01203/laws.FnExactGreatestCap", spec := "fnExactGreatestCap", unfollowed := true, recurses := true, plainKeys := false, apart := false, narrowed := true }
def FnExactGreatestCapUptoSaid : Prop := fnExactGreatestCapUptoRow.holds Try.pinned (OpenSpec.upto fnExactGreatestCapSpec)

/-- 'laws.FnExactCountCaps', WHERE WHAT IT READS IS OF BULK AT MOST 1048576: true; the input reads as it did. -/
def fnExactCountCapsUptoRow : OpenClaim := { program := "ytbimbaogjknboaa", sum := "9f858ee23e701773ed7e2e7af505b64c2bead25cdd9fdd6a3358e4e41bd9c156", func := "loop.example/g01203/laws.FnExactCountCaps", spec := "fnExactCountCaps", unfollowed := true, recurses := true, plainKeys := false, apart := false, narrowed := true }
def FnExactCountCapsUptoSaid : Prop := fnExactCountCapsUptoRow.holds Try.pinned (OpenSpec.upto fnExactCountCapsSpec)

/-- 'laws.FnExactFewestDrops', WHERE WHAT IT READS IS OF BULK AT MOST 1048576: true; the input reads as it did. -/
def fnExactFewestDropsUptoRow : OpenClaim := { program := "ytbimbaogjknboaa", sum := "9f858ee23e701773ed7e2e7af505b64c2bead25cdd9fdd6a3358e4e41bd9c156", func := "loop.example/g01203/laws.FnExactFewestDrops", spec := "fnExactFewestDrops", unfollowed := true, recurses := true, plainKeys := false, apart := false, narrowed := true }
def FnExactFewestDropsUptoSaid : Prop := fnExactFewestDropsUptoRow.holds Try.pinned (OpenSpec.upto fnExactFewestDropsSpec)

/-- 'laws.FnExactAnchorsOf', WHERE WHAT IT READS IS OF BULK AT MOST 1048576: true; the input reads as it did. -/
def fnExactAnchorsOfUptoRow : OpenClaim := { program := "ytbimbaogjknboaa", sum := "9f858ee23e701773ed7e2e7af505b64c2bead25cdd9fdd6a3358e4e41bd9c156", func := "loop.example/g01203/laws.FnExactAnchorsOf", spec := "fnExactAnchorsOf", unfollowed := true, recurses := true, plainKeys := false, apart := false, narrowed := true }
def FnExactAnchorsOfUptoSaid : Prop := fnExactAnchorsOfUptoRow.holds Try.pinned (OpenSpec.upto fnExactAnchorsOfSpec)

/-- 'laws.FnExactJoinCaps', WHERE WHAT IT READS IS OF BULK AT MOST 1048576: true; the input reads as it did. -/
def fnExactJoinCapsUptoRow : OpenClaim := { program := "ytbimbaogjknboaa", sum := "9f858ee23e701773ed7e2e7af505b64c2bead25cdd9fdd6a3358e4e41bd9c156", func := "loop.example/g01203/laws.FnExactJoinCaps", spec := "fnExactJoinCaps", unfollowed := true, recurses := true, plainKeys := false, apart := false, narrowed := true }
def FnExactJoinCapsUptoSaid : Prop := fnExactJoinCapsUptoRow.holds Try.pinned (OpenSpec.upto fnExactJoinCapsSpec)

/-- 'laws.FnExactCapLines', WHERE WHAT IT READS IS OF BULK AT MOST 1048576: true; the input reads as it did. -/
def fnExactCapLinesUptoRow : OpenClaim := { program := "ytbimbaogjknboaa", sum := "9f858ee23e701773ed7e2e7af505b64c2bead25cdd9fdd6a3358e4e41bd9c156", func := "loop.example/g01203/laws.FnExactCapLines", spec := "fnExactCapLines", unfollowed := true, recurses := true, plainKeys := false, apart := false, narrowed := true }
def FnExactCapLinesUptoSaid : Prop := fnExactCapLinesUptoRow.holds Try.pinned (OpenSpec.upto fnExactCapLinesSpec)

end Rows
end Go.Proofs.Ytbimbaogjknboaa
