/- The first part of a text: what stands ahead of the first byte that parts it. No walk. -/
import Derived.Test.YthmchdohdafikaaDoorCut
import Derived.Test.YthmchdohdafikaaDoorOne
namespace Go.Proofs.YthmchdohdafikaaDoor.cut

theorem takeWhile_at (b : UInt8) (l : List UInt8) : ∀ j, l[j]? = some b → ¬ b ∈ l.take j → l.takeWhile (· != b) = l.take j := by
  induction l with
  | nil => intro j h _; simp at h
  | cons c l ih =>
    intro j h hn
    match j, h, hn with
    | 0, h, _ => simp at h; simp [h]
    | j + 1, h, hn =>
      simp only [List.take_succ_cons, List.mem_cons, not_or] at hn
      have hc : (c != b) = true := by rw [bne_iff_ne]; exact fun e => hn.1 e.symm
      rw [List.takeWhile_cons, hc, if_pos rfl, ih j (by simpa using h) hn.2, List.take_succ_cons]

theorem cuts_first (s : ByteArray) (b : UInt8) (k : Nat) : k ≤ s.size →
    (¬ b ∈ s.data.toList.take k ∧ cuts s b k = ([], 0)) ∨ (∃ j rest, j < s.size ∧ s.data.toList[j]? = some b ∧ ¬ b ∈ s.data.toList.take j ∧ (cuts s b k).1 = s.extract 0 j :: rest) := by
  induction k with
  | zero => intro _; left; simp [cuts]
  | succ k ih =>
    intro hk
    have hlt : k < s.size := by omega
    have hlt' : k < s.data.toList.length := by simpa using hlt
    rcases ih (by omega) with ⟨hn, hc⟩ | ⟨j, rest, hj, h1, h2, h3⟩
    · by_cases hb : s.data.toList[k]? = some b
      · right
        exact ⟨k, [], hlt, hb, hn, by rw [cuts, if_pos hb, hc]; rfl⟩
      · left
        refine ⟨?_, by rw [cuts, if_neg hb, hc]⟩
        rw [List.take_succ_eq_append_getElem hlt', List.mem_append]
        rintro (h | h)
        · exact hn h
        · simp at h; apply hb; rw [List.getElem?_eq_getElem hlt']; rw [h]; rfl
    · right
      by_cases hb : s.data.toList[k]? = some b
      · exact ⟨j, rest ++ [s.extract (cuts s b k).2 k], hj, h1, h2, by rw [cuts, if_pos hb, h3]; rfl⟩
      · exact ⟨j, rest, hj, h1, h2, by rw [cuts, if_neg hb, h3]⟩

theorem parts_head (s : ByteArray) (b : UInt8) : ∃ t rest, parts s b = t :: rest ∧ t.data.toList = s.data.toList.takeWhile (· != b) ∧ t.size ≤ s.size := by
  rcases cuts_first s b s.size (Nat.le_refl _) with ⟨hn, hc⟩ | ⟨j, rest, hj, h1, h2, h3⟩
  · refine ⟨s.extract 0 s.size, [], by simp [parts, hc], ?_, by simp⟩
    rw [List.take_of_length_le (by simp)] at hn
    rw [one.takeWhile_all b _ hn]
    simp
  · refine ⟨s.extract 0 j, rest ++ [s.extract (cuts s b s.size).2 s.size], by simp [parts, h3], ?_, by simp; omega⟩
    rw [takeWhile_at b _ j h1 h2]
    simp [ByteArray.data_extract]

end Go.Proofs.YthmchdohdafikaaDoor.cut
