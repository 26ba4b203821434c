/- The parts of a text between bytes, joined again (mathematics). -/
import Derived.Test.YtcjmlddpjbneiaaSv
import Derived.Test.YtcjmlddpjbneiaaCut
namespace Go.Proofs.Ytcjmlddpjbneiaa.cards
open Go.RowKit
set_option linter.unusedVariables false

theorem ext_list (s : ByteArray) (i j : Nat) : (s.extract i j).data.toList = (s.data.toList.drop i).take (j - i) := by
  rw [ByteArray.data_extract, Array.toList_extract]
/-- No byte b in the whole parts, nor behind them. -/
theorem cuts_none (s : ByteArray) (b : UInt8) : ∀ k, (∀ x ∈ (cut.cuts s b k).1, b ∉ x.data.toList) ∧ ∀ i, (cut.cuts s b k).2 ≤ i → i < k → s.data.toList[i]? ≠ some b
  | 0 => ⟨fun x h => by simp [cut.cuts] at h, fun i _ h => by omega⟩
  | k + 1 => by
    have ih := cuts_none s b k
    unfold cut.cuts
    split
    · refine ⟨fun x hx => ?_, fun i h1 h2 => by omega⟩
      rcases List.mem_append.1 hx with hx | hx
      · exact ih.1 x hx
      · obtain rfl : x = _ := by simpa using hx
        rw [ext_list]
        intro hb
        obtain ⟨i, hi⟩ := List.mem_iff_getElem?.1 hb
        rw [List.getElem?_take] at hi
        split at hi
        · rw [List.getElem?_drop] at hi
          exact ih.2 _ (by omega) (by omega) hi
        · cases hi
    · rename_i hn
      refine ⟨ih.1, fun i h1 h2 => ?_⟩
      by_cases e : i = k
      · subst e; exact hn
      · exact ih.2 i h1 (by omega)
theorem parts_none (s : ByteArray) (b : UInt8) : ∀ x ∈ cut.parts s b, b ∉ x.data.toList := fun x hx => by
  have h := cuts_none s b s.size
  rcases List.mem_append.1 hx with hx | hx
  · exact h.1 x hx
  · obtain rfl : x = _ := by simpa using hx
    rw [ext_list]
    intro hb
    obtain ⟨i, hi⟩ := List.mem_iff_getElem?.1 hb
    rw [List.getElem?_take] at hi
    split at hi
    · rw [List.getElem?_drop] at hi
      exact h.2 _ (by omega) (by omega) hi
    · cases hi
/-- The parts, each with its byte behind it. -/
def flB (b : UInt8) (l : List ByteArray) : List UInt8 := l.flatMap (fun x => x.data.toList ++ [b])
theorem cuts_flat (s : ByteArray) (b : UInt8) : ∀ k, k ≤ s.size → flB b (cut.cuts s b k).1 = s.data.toList.take (cut.cuts s b k).2
  | 0, _ => by simp [cut.cuts, flB]
  | k + 1, h => by
    have ih := cuts_flat s b k (by omega)
    have hb := cut.cuts_bd s b k
    unfold cut.cuts
    split
    · rename_i e
      simp only [flB, List.flatMap_append, List.flatMap_cons, List.flatMap_nil, List.append_nil] at ih ⊢
      rw [ih, ext_list]
      have h1 : s.data.toList.take (k + 1) = s.data.toList.take k ++ [b] := by rw [List.take_add_one, e]; rfl
      rw [h1, ← List.append_assoc]
      congr 1
      have h2 := List.take_append_drop (cut.cuts s b k).2 (s.data.toList.take k)
      rw [List.take_take, List.drop_take, Nat.min_eq_left hb.2] at h2
      exact h2
    · exact ih
theorem parts_flat (s : ByteArray) (b : UInt8) : flB b (cut.parts s b) = s.data.toList ++ [b] := by
  have h := cuts_flat s b s.size (Nat.le_refl _)
  have hb := cut.cuts_bd s b s.size
  have e := ext_list s (cut.cuts s b s.size).2 s.size
  unfold cut.parts
  unfold flB at *
  rw [List.flatMap_append, h]
  simp only [List.flatMap_cons, List.flatMap_nil, List.append_nil]
  rw [e, ← List.append_assoc]
  congr 1
  have hl : (s.data.toList.drop (cut.cuts s b s.size).2).take (s.size - (cut.cuts s b s.size).2) = s.data.toList.drop (cut.cuts s b s.size).2 := List.take_of_length_le (by simp)
  rw [hl, List.take_append_drop]

theorem joinTail_flB (b : UInt8) : ∀ r : List ByteArray, Lib.joinTail [b] (r.map (·.data.toList)) ++ [b] = [b] ++ flB b r
  | [] => rfl
  | x :: r => by
    have ih := joinTail_flB b r
    unfold Lib.joinTail at ih ⊢
    unfold flB at ih ⊢
    simp only [List.map_cons, List.flatten_cons, List.flatMap_cons, List.append_assoc] at ih ⊢
    rw [ih]
theorem jl_flB (b : UInt8) {l : List ByteArray} (h : 0 < l.length) : jl l b ++ [b] = flB b l := by
  cases l with
  | nil => simp at h
  | cons x r =>
    unfold jl
    rw [List.map_cons, Lib.join_cons, List.append_assoc, joinTail_flB]
    simp [flB]
theorem parts_pos2 (s : ByteArray) (b : UInt8) : 0 < (cut.parts s b).length := by simp [cut.parts]
theorem jT_parts (s : ByteArray) (b : UInt8) : jT (cut.parts s b) b = s := by
  have h := (jl_flB b (parts_pos2 s b)).trans (parts_flat s b)
  have h2 := List.append_cancel_right h
  unfold jT
  rw [h2]
theorem anyB_parts (s : ByteArray) (b : UInt8) : anyB (cut.parts s b) b = false := by
  unfold anyB
  rw [List.any_eq_false]
  intro x hx
  unfold hasB
  have := parts_none s b x hx
  simp [this]
theorem sm_flB (b : UInt8) : ∀ l : List ByteArray, (flB b l).length = sm l + l.length
  | [] => rfl
  | x :: r => by
    have ih := sm_flB b r
    unfold flB at ih ⊢
    simp only [List.flatMap_cons, List.length_append, List.length_cons, List.length_nil, sm, ih]
    have : x.data.toList.length = x.size := by simp
    omega
theorem sm_parts (s : ByteArray) (b : UInt8) : sm (cut.parts s b) + (cut.parts s b).length = s.size + 1 := by
  rw [← sm_flB b, parts_flat]
  simp
theorem back_parts (s : ByteArray) (b : UInt8) (h : s.size ≤ 4000) : jsR (cut.parts s b) ⟨#[b]⟩ = (s, true) := by
  rw [jsR_yes (parts_pos2 s b), jR_yes (anyB_parts s b) (by rw [sm_parts]; omega), jT_parts]
end Go.Proofs.Ytcjmlddpjbneiaa.cards
