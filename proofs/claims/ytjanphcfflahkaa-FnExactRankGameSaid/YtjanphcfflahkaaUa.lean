/- New Deals, and laying more: the program and the model alike. -/
import Derived.Test.YtjanphcfflahkaaQx
import Derived.Test.YtjanphcfflahkaaQr
import Derived.Test.YtjanphcfflahkaaQi
namespace Go.Proofs.Ytjanphcfflahkaa.deal
open Go.RowKit
open cards
set_option linter.unusedVariables false

theorem new_is (s : Int) : (newD s).nx = 12 ∧ (newD s).l = (pile s).take 12 ∧ (newD s).s = s := by
  refine ⟨rfl, ?_, rfl⟩
  show [] ++ ((pile s).drop ((0 : Int).toNat)).take _ = _
  rw [List.nil_append]; rfl
noncomputable def ndR (s : Int) : Dl × Bool := if isSd s = true then (newD s, true) else (⟨0, 0, []⟩, false)
theorem ndR_len (s : Int) : (ndR s).1.l.length ≤ 1000 := by
  unfold ndR; split
  · have := (new_facts (s := s)).2.1
    show (newD s).l.length ≤ _; omega
  · simp

noncomputable def lmR (d : Dl) : Dl × Bool := if d.ok = true ∧ stuckD d = true ∧ d.nx ≠ 81 then (layD d 3, true) else (⟨0, 0, []⟩, false)
theorem lay_le (d : Dl) (n : Int) : (layD d n).l.length ≤ d.l.length + 81 := by
  simp only [layD, List.length_append, List.length_take, List.length_drop, pile_len]
  omega
theorem lmR_len (d : Dl) : (lmR d).1.l.length ≤ 1000 := by
  unfold lmR; split
  · rename_i h
    have h1 := (Dl.ok_iff.1 h.1).len81
    have h2 := lay_le d 3
    show (layD d 3).l.length ≤ _
    omega
  · simp

end Go.Proofs.Ytjanphcfflahkaa.deal
