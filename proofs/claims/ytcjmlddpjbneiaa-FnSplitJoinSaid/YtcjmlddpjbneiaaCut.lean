/- The parts of a text between bytes: the model's spec.l1Split as a function on texts, and its contract. -/
import Derived.Test.YtcjmlddpjbneiaaRows
import Derived.WalkKit
import Derived.ProofKit
import Derived.OpenShut
import Derived.OwnWalk
import Derived.Below
import Derived.Outline
import Derived.LoopTactic
import Derived.Maps.AppendAt
import Derived.Lib.Hide
namespace Go.Proofs.Ytcjmlddpjbneiaa.cut
open Go.RowKit

/-- The whole parts ahead of place k, and where the part that is open begins. -/
def cuts (s : ByteArray) (b : UInt8) : Nat → List ByteArray × Nat
  | 0 => ([], 0)
  | k + 1 => if s.data.toList[k]? = some b then ((cuts s b k).1 ++ [s.extract (cuts s b k).2 k], k + 1) else cuts s b k
/-- All parts. -/
def parts (s : ByteArray) (b : UInt8) : List ByteArray := (cuts s b s.size).1 ++ [s.extract (cuts s b s.size).2 s.size]
theorem cuts_bd (s : ByteArray) (b : UInt8) (k : Nat) : (cuts s b k).1.length ≤ k ∧ (cuts s b k).2 ≤ k := by
  induction k with
  | zero => simp [cuts]
  | succ k ih =>
    unfold cuts
    split
    · simp; omega
    · omega
theorem cuts_yes {s : ByteArray} {b : UInt8} {k : Nat} (h : k < s.size) (hb : s[k] = b) : cuts s b (k + 1) = ((cuts s b k).1 ++ [s.extract (cuts s b k).2 k], k + 1) := by
  have : s.data.toList[k]? = some b := by rw [List.getElem?_eq_getElem (by simpa using h)]; rw [← hb]; rfl
  rw [cuts, if_pos this]
theorem cuts_no {s : ByteArray} {b : UInt8} {k : Nat} (h : k < s.size) (hb : s[k] ≠ b) : cuts s b (k + 1) = cuts s b k := by
  have : ¬ s.data.toList[k]? = some b := by
    rw [List.getElem?_eq_getElem (by simpa using h)]
    intro e
    exact hb (Option.some.inj e)
  rw [cuts, if_neg this]
theorem parts_len (s : ByteArray) (b : UInt8) : (parts s b).length ≤ s.size + 1 := by
  have := cuts_bd s b s.size
  simp [parts]; omega

theorem info : (Try.prog.info? 9).map (fun i => (i.zero, i.size, i.bytes)) = some (some (.string ⟨#[]⟩), 1, 16) := by kernel_rfl

end Go.Proofs.Ytcjmlddpjbneiaa.cut
