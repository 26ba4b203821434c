/- The cards at some places, as the program takes them. -/
import Derived.Test.YtcedbhgjabheaaaVm
import Derived.Test.YtcedbhgjabheaaaAt
namespace Go.Proofs.Ytcedbhgjabheaaa.cards
open Go.RowKit
set_option linter.unusedVariables false

theorem pick_at {l : List Cd} : ∀ {ps : List Int}, (∀ p ∈ ps, 0 ≤ p ∧ p < l.length) → ∀ {k : Nat} {p : Int}, ps[k]? = some p → (pick l ps)[k]? = l[p.toNat]?
  | [], _, k, p, h => by simp at h
  | q :: r, hi, k, p, h => by
    have hq := hi q (by simp)
    have hx : l[q.toNat]? = some (l[q.toNat]'(by omega)) := List.getElem?_eq_getElem (by omega)
    have e : pick l (q :: r) = (l[q.toNat]'(by omega)) :: pick l r := by unfold pick; rw [List.filterMap_cons, hx]
    rw [e]
    cases k with
    | zero => simp at h; subst h; rw [hx]; rfl
    | succ k => simp at h; simp; exact pick_at (fun p hp => hi p (by simp [hp])) h

end Go.Proofs.Ytcedbhgjabheaaa.cards
