/- The parts of a text between bytes: the model's spec.l1Split as a function on texts, and its contract. -/
import Derived.Test.YtjanphcfflahkaaRows
import Derived.WalkKit
import Derived.ProofKit
import Derived.OpenShut
import Derived.OwnWalk
import Derived.Below
import Derived.Outline
import Derived.LoopTactic
import Derived.Maps.AppendAt
import Derived.Lib.Hide
namespace Go.Proofs.Ytjanphcfflahkaa.cut
open Go.RowKit

/-- The whole parts ahead of place k, and where the part that is open begins. -/
def cuts (s : ByteArray) (b : UInt8) : Nat → List ByteArray × Nat
  | 0 => ([], 0)
  | k + 1 => if s.data.toList[k]? = some b then ((cuts s b k).1 ++ [s.extract (cuts s b k).2 k], k + 1) else cuts s b k
/-- All parts. -/
def parts (s : ByteArray) (b : UInt8) : List ByteArray := (cuts s b s.size).1 ++ [s.extract (cuts s b s.size).2 s.size]
theorem cuts_bd (s : ByteArray) (b : UInt8) (k : Nat) : (cuts s b k).1.length ≤ k ∧ (cuts s b k).2 ≤ k := by
  induction k with
  | zero => simp [cuts]
  | succ k ih =>
    unfold cuts
    split
    · simp; omega
    · omega
theorem cuts_yes {s : ByteArray} {b : UInt8} {k : Nat} (h : k < s.size) (hb : s[k] = b) : cuts s b (k + 1) = ((cuts s b k).1 ++ [s.extract (cuts s b k).2 k], k + 1) := by
  have : s.data.toList[k]? = some b := by rw [List.getElem?_eq_getElem (by simpa using h)]; rw [← hb]; rfl
  rw [cuts, if_pos this]
theorem cuts_no {s : ByteArray} {b : UInt8} {k : Nat} (h : k < s.size) (hb : s[k] ≠ b) : cuts s b (k + 1) = cuts s b k := by
  have : ¬ s.data.toList[k]? = some b := by
    rw [List.getElem?_eq_getElem (by simpa using h)]
    intro e
    exact hb (Option.some.inj e)
  rw [cuts, if_neg this]
theorem parts_len (s : ByteArray) (b : UInt8) : (parts s b).length ≤ s.size + 1 := by
  have := cuts_bd s b s.size
  simp [parts]; omega

theorem info : (Try.prog.info? 9).map (fun i => (i.zero, i.size, i.bytes)) = some (some (.string ⟨#[]⟩), 1, 16) := by kernel_rfl

set_option maxHeartbeats 1000000 in
theorem split_any (s : ByteArray) (b : UInt8) (w : World) (hs : s.size ≤ 1048576) :
    Calls Try.prog 57 #[.string s, .int .u8 b.toNat] w fun e w' => ∃ v, e = .returned v ∧ w'.ownsRow w.heap.size 9 1 v (parts s b).length ((parts s b).map Value.string) ∧ Below w.heap.size w w' := by
  obtain ⟨i0, hi, hz0, hz1, hz2⟩ := info_parts info
  go_enter Try.func57, Try.ntmps57
  go_wp2_with fail
  go_loopw [5, 6, 7] (fun v f i wr => ∃ k : Nat, k ≤ s.size ∧ i = .int .i64 k ∧ f = .int .i64 ((cuts s b k).2 : Nat) ∧ wr.ownsRow w.heap.size 9 1 v (cuts s b k).1.length ((cuts s b k).1.map Value.string) ∧ Below w.heap.size w wr) (fun _ _ i _ => s.size - (intOf i).toNat)
  case atStart => exact ⟨0, Nat.zero_le _, rfl, rfl, World.ownsRow_made _ _ _ (Nat.le_refl _) (by unfold maxLen; omega) rfl, (Below.refl _ _).alloc (Nat.le_refl _) _⟩
  case round =>
    obtain ⟨k, hk, rfl, rfl, hown, hbel⟩ := hrel
    have hbd := cuts_bd s b k
    by_cases hlt : k < s.size
    · by_cases hc : s[k] = b
      · have hbt : ((s[k].toNat : Int) == b.toNat) = true := by simp [hc]
        have HC := Lib.hid (cuts_yes hlt hc)
        clear hc
        go_wp2_with (at_builtin; refine wpList_append_own _ rfl _ _ 80 rfl w.heap.size 9 i0 (.string ⟨#[]⟩) 1 16 Try.underlying80 hi hz0 hz1 hz2 rfl (by decide) _ _ _ rfl (hown.alloc _) ⟨wr.heap.size, 0, none⟩ 1 1 [.string (s.extract (cuts s b k).2 k)] rfl rfl ?c1 ?c2 ?c3 ?c4 ?c5 ?_)
        case c1 => exact cell_one_new _ _ _
        case c2 => simp [Value.oneCell']
        case c3 => unfold maxLen; omega
        case c4 => omega
        case c5 => have := hbel.size; simp; omega
        intro v' w1 hown' hgrow _
        have HO := Lib.hid hown'
        have HG := Lib.hid hgrow
        clear hown' hgrow
        go_wp2_with fail
        go_roundw
        case rel => exact ⟨k + 1, by omega, by go_num, by rw [HC.out]; go_num, by rw [HC.out]; simpa using HO.out, (hbel.alloc hbel.size _).grown HG.out (by simp; have := hbel.size; omega) (fun j e => ((hown.lt j e).1))⟩
        case measure => simp [intOf]; omega
      · have hbt : ((s[k].toNat : Int) == b.toNat) = false := by
          simp only [beq_eq_false_iff_ne, ne_eq]
          intro e; exact hc (UInt8.toNat.inj (by omega))
        have HC := Lib.hid (cuts_no hlt hc)
        clear hc
        go_wp2_with fail
        go_roundw
        case rel => exact ⟨k + 1, by omega, by go_num, by rw [HC.out], by rw [HC.out]; exact hown, hbel⟩
        case measure => simp [intOf]; omega
    · obtain rfl : k = s.size := by omega
      go_wp2_with (at_builtin; refine wpList_append_own _ rfl _ _ 80 rfl w.heap.size 9 i0 (.string ⟨#[]⟩) 1 16 Try.underlying80 hi hz0 hz1 hz2 rfl (by decide) _ _ _ rfl (hown.alloc _) ⟨wr.heap.size, 0, none⟩ 1 1 [.string (s.extract (cuts s b s.size).2 s.size)] rfl rfl ?c1 ?c2 ?c3 ?c4 ?c5 ?_)
      case c1 => exact cell_one_new _ _ _
      case c2 => simp [Value.oneCell']
      case c3 => unfold maxLen; omega
      case c4 => omega
      case c5 => have := hbel.size; simp; omega
      intro v' w1 hown' hgrow _
      have HO := Lib.hid hown'
      have HG := Lib.hid hgrow
      clear hown' hgrow
      go_wp2_with fail
      go_ret
      exact ⟨_, rfl, by simpa [parts] using HO.out, (hbel.alloc hbel.size _).grown HG.out (by simp; have := hbel.size; omega) (fun j e => ((hown.lt j e).1))⟩
end Go.Proofs.Ytjanphcfflahkaa.cut
