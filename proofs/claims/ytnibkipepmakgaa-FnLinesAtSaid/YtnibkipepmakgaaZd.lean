/- The model's test whether a line is apart from others. -/
import Derived.Test.YtnibkipepmakgaaZc
namespace Go.Proofs.Ytnibkipepmakgaa.parting
open Go.RowKit
open cards maps
set_option linter.unusedVariables false

theorem meet_sym (x y : A3) : meet x y = meet y x := by
  rw [Bool.eq_iff_iff]
  unfold meet inL
  simp only [Bool.or_eq_true, decide_eq_true_eq]
  omega
theorem com_gt (x y : A3) : decide ((0 : Int) < (com x y : Nat)) = meet y x := by
  rw [meet_sym, ← com_meet]
  simp
theorem free_bad {l : List A3} {x y : A3} {k : Nat} (h : l[k]? = some x) (hm : meet x y = true) : false = free l y := by
  symm
  unfold free
  rw [List.all_eq_false]
  exact ⟨x, List.mem_of_getElem? h, by simp [hm]⟩
theorem free_good {l : List A3} {y : A3} (h : ∀ (j : Nat) x, l[j]? = some x → meet x y = false) : true = free l y := by
  symm
  unfold free
  rw [List.all_eq_true]
  intro x hx
  obtain ⟨j, hj⟩ := List.mem_iff_getElem?.1 hx
  simp [h j x hj]

end Go.Proofs.Ytnibkipepmakgaa.parting
