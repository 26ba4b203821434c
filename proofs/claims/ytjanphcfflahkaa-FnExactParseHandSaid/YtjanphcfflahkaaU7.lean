/- ParseHand: what both hand back, and the mathematics of a hand's text. -/
import Derived.Test.YtjanphcfflahkaaU5
import Derived.Test.YtjanphcfflahkaaIh
import Derived.Test.YtjanphcfflahkaaCut
import Derived.Test.YtjanphcfflahkaaU6
namespace Go.Proofs.Ytjanphcfflahkaa.cards
open Go.RowKit
set_option linter.unusedVariables false

def rdAll (l : List ByteArray) : Bool := l.all fun x => (readC x).2
def rdL (l : List ByteArray) : List Cd := l.map fun x => (readC x).1
/-- A text as a hand. -/
noncomputable def phR (s : ByteArray) : List Cd × Bool :=
  if s.size = 0 then ([], true) else if 134 < s.size then ([], false) else
  if (rdAll (cut.parts s 32) && handB (rdL (cut.parts s 32))) = true then (rdL (cut.parts s 32), true) else ([], false)
def wts : List ByteArray → Nat
  | [] => 0
  | x :: l => x.size + 1 + wts l
theorem wts_app : ∀ a b : List ByteArray, wts (a ++ b) = wts a + wts b
  | [], b => by simp [wts]
  | x :: a, b => by simp [wts, wts_app a b]; omega
theorem cuts_wts (s : ByteArray) (b : UInt8) : ∀ k, k ≤ s.size → wts (cut.cuts s b k).1 = (cut.cuts s b k).2
  | 0, _ => rfl
  | k + 1, h => by
    have ih := cuts_wts s b k (by omega)
    have hb := cut.cuts_bd s b k
    unfold cut.cuts
    split
    · simp only [wts_app, wts, ih, ByteArray.size_extract]; omega
    · exact ih
theorem parts_wts (s : ByteArray) (b : UInt8) : wts (cut.parts s b) = s.size + 1 := by
  have h := cuts_wts s b s.size (Nat.le_refl _)
  have hb := cut.cuts_bd s b s.size
  simp only [cut.parts, wts_app, wts, h, ByteArray.size_extract]; omega
theorem read_size {s : ByteArray} (h : (readC s).2 = true) : s.size = 4 := Decidable.byContradiction fun e => by rw [readC_no e] at h; cases h
theorem rd_wts : ∀ {l : List ByteArray}, rdAll l = true → wts l = 5 * l.length
  | [], _ => rfl
  | x :: l, h => by
    rw [rdAll, List.all_cons, Bool.and_eq_true] at h
    have h2 := rd_wts (l := l) h.2
    have := read_size h.1
    simp only [wts, List.length_cons]; omega
theorem ph_size {s : ByteArray} (h : rdAll (cut.parts s 32) = true) : s.size + 1 = 5 * (cut.parts s 32).length := by rw [← rd_wts h, parts_wts]
theorem ph_empty {s : ByteArray} (h : s.size = 0) : phR s = ([], true) := by rw [phR, if_pos h]
theorem ph_long {s : ByteArray} (h : 134 < s.size) : phR s = ([], false) := by rw [phR, if_neg (by omega), if_pos h]
theorem ph_bad {s : ByteArray} (h0 : s.size ≠ 0) (h : rdAll (cut.parts s 32) = false) : phR s = ([], false) := by
  rw [phR, if_neg h0]; split <;> simp [h]
theorem ph_no {s : ByteArray} (h0 : s.size ≠ 0) (h : handB (rdL (cut.parts s 32)) = false) : phR s = ([], false) := by
  rw [phR, if_neg h0]; split <;> simp [h]
theorem ph_yes {s : ByteArray} (h0 : s.size ≠ 0) (h1 : s.size ≤ 135) (h : rdAll (cut.parts s 32) = true) (h2 : handB (rdL (cut.parts s 32)) = true) : phR s = (rdL (cut.parts s 32), true) := by
  have := ph_size h
  rw [phR, if_neg h0, if_neg (by omega), if_pos (by simp [h, h2])]
theorem ph_len (s : ByteArray) : (phR s).1.length ≤ 27 := by
  unfold phR
  split
  · simp
  · split
    · simp
    · split
      · rename_i h
        rw [Bool.and_eq_true] at h
        exact (handB_true.1 h.2).1
      · simp
theorem bad_pre {l pre : List ByteArray} {x : ByteArray} (h : pre ++ [x] <+: l) (hx : (readC x).2 = false) : rdAll l = false := by
  obtain ⟨r, hr⟩ := h
  rw [← hr]
  simp [rdAll, hx]
theorem rd_more {pre : List ByteArray} {x : ByteArray} (h : rdAll pre = true) (hx : (readC x).2 = true) : rdAll (pre ++ [x]) = true := by
  rw [rdAll, List.all_append, Bool.and_eq_true]
  exact ⟨h, by simp [hx]⟩
theorem rdL_len (l : List ByteArray) : (rdL l).length = l.length := by simp [rdL]
theorem rdL_app (l : List ByteArray) (x : ByteArray) : rdL (l ++ [x]) = rdL l ++ [(readC x).1] := by simp [rdL]
end Go.Proofs.Ytjanphcfflahkaa.cards
