/- Plain facts on lists of bytes: a byte's first place, and what stands ahead of it. No program. -/
import Derived.Lib.IndexMore
namespace Go.Proofs.YthmchdohdafikaaDoor.one
open Go

theorem index_cons (b c : UInt8) (l : List UInt8) : Lib.index (b :: l) [c] = if c = b then 0 else if Lib.index l [c] = -1 then -1 else Lib.index l [c] + 1 := by
  simp [Lib.index, List.isPrefixOf]
theorem index_low (c : UInt8) (l : List UInt8) : -1 ≤ Lib.index l [c] := by
  induction l with
  | nil => simp [Lib.index]
  | cons b l ih => rw [index_cons]; split <;> (try split) <;> omega
theorem index_mem (c : UInt8) (l : List UInt8) : 0 ≤ Lib.index l [c] ↔ c ∈ l := by
  induction l with
  | nil => simp [Lib.index]
  | cons b l ih =>
    rw [index_cons]
    have hl := index_low c l
    by_cases h : c = b
    · simp [h]
    · simp only [h, if_false, List.mem_cons, false_or]
      rw [← ih]
      split <;> omega
theorem contains_one (c : UInt8) (l : List UInt8) : Lib.contains l [c] = l.contains c := by
  unfold Lib.contains
  rw [Bool.eq_iff_iff]
  simp [index_mem]
theorem take_index (c : UInt8) (l : List UInt8) (h : c ∈ l) : l.take (Lib.index l [c]).toNat = l.takeWhile (· != c) := by
  induction l with
  | nil => simp at h
  | cons b l ih =>
    rw [index_cons]
    by_cases hb : c = b
    · simp [hb]
    · have hm : c ∈ l := by simpa [hb] using h
      have h0 := (index_mem c l).2 hm
      rw [if_neg hb, if_neg (by omega), show (Lib.index l [c] + 1).toNat = (Lib.index l [c]).toNat + 1 by omega, List.take_succ_cons, ih hm]
      have : (b != c) = true := by simpa using fun h => hb h.symm
      simp [List.takeWhile_cons, this]
theorem takeWhile_all (c : UInt8) (l : List UInt8) (h : ¬ c ∈ l) : l.takeWhile (· != c) = l := by
  induction l with
  | nil => rfl
  | cons b l ih =>
    have hb : (b != c) = true := by
      rw [bne_iff_ne]; intro e; exact h (by simp [e])
    rw [List.takeWhile_cons, hb, if_pos rfl, ih (fun hm => h (by simp [hm]))]
theorem cut_one (c : UInt8) (l : List UInt8) : (Lib.cut l [c]).1 = l.takeWhile (· != c) := by
  unfold Lib.cut
  by_cases h : c ∈ l
  · rw [if_pos ((index_mem c l).2 h)]; exact take_index c l h
  · rw [if_neg (fun h' => h ((index_mem c l).1 h'))]; exact (takeWhile_all c l h).symm
theorem head_free (c : UInt8) (l : List UInt8) : ¬ c ∈ l.takeWhile (· != c) := by
  induction l with
  | nil => simp
  | cons b l ih =>
    rw [List.takeWhile_cons]
    by_cases hb : (b != c) = true
    · rw [hb, if_pos rfl]
      intro h
      rcases List.mem_cons.1 h with e | h
      · rw [bne_iff_ne] at hb; exact hb e.symm
      · exact ih h
    · simp [hb]
end Go.Proofs.YthmchdohdafikaaDoor.one
