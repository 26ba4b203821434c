/- Slices of cards made one: the library's Grow of nil, and Concat. -/
import Derived.Test.YtjanphcfflahkaaAv
import Derived.Lib.AppendZeros
namespace Go.Proofs.Ytjanphcfflahkaa.cards
open Go.RowKit
set_option linter.unusedVariables false

theorem own_grown (w : World) (n : Nat) (h0 : 0 < n) (hn : n ≤ 1000000) (z : Value) (hz : z.cells.size = 4) : Own (w.drew.alloc (.cells (Builtin.zeroCells z.cells n ++ Builtin.zeroCells z.cells (grownCap w n 0 22 - n)) 22)) w.heap.size (.slice (some ⟨w.heap.size, 0, none⟩) 0 (grownCap w n 0 22)) [] := by
  have hge := grownCap_ge w n 0 22
  have hm : n ≤ maxLen := by simp only [maxLen]; omega
  refine ⟨rfl, .inr ⟨w.heap.size, _, _, rfl, Nat.le_refl _, heap_alloc_new w.drew _, Nat.zero_le _, grownCap_le_maxLen w n 0 22 hm, ?_, by simp [flat]⟩⟩
  rw [Array.size_append, size_zeroCells, size_zeroCells, hz]
  omega

theorem flat_snoc {α : Type} {ls : List (List α)} {k : Nat} {l : List α} (h : ls[k]? = some l) : (ls.take (k + 1)).flatten = (ls.take k).flatten ++ l := by rw [take_snoc h]; simp
theorem flat_le {α : Type} (ls : List (List α)) (k : Nat) : (ls.take k).flatten.length ≤ ls.flatten.length := by
  have h := congrArg List.flatten (List.take_append_drop k ls)
  rw [List.flatten_append] at h
  rw [← h, List.length_append]; omega

end Go.Proofs.Ytjanphcfflahkaa.cards
