/- Cards: kinds of lines and in how many traits two cards differ: what the functions return. -/
import Derived.Test.YtfbcjcfhdclklaaC5
namespace Go.Proofs.Ytfbcjcfhdclklaa.cards
open Go.RowKit
set_option linter.unusedVariables false

def difR (x y : Cd) : Int × Bool := if x.ok && y.ok then (dif x y, true) else (0, false)

def kindR (x y z : Cd) : Int × Bool := if x.ok && y.ok && z.ok && line x y z then (dif x y, true) else (0, false)
theorem kind_dif {x y z : Cd} (hx : x.ok = true) (hy : y.ok = true) (hz : z.ok = true) (h : line x y z = true) : cnt difQ x y z = dif x y := by
  obtain ⟨x1, x2, x3, x4⟩ := small_of hx
  obtain ⟨y1, y2, y3, y4⟩ := small_of hy
  obtain ⟨z1, z2, z3, z4⟩ := small_of hz
  unfold line at h
  rw [Bool.and_eq_true] at h
  have h2 := h.2
  unfold same third at h2
  have h2 := of_decide_eq_true h2
  simp only at h2
  have tr1 : ∀ {a b c : Int}, small a → small b → small c → (6 - a - b) % 3 = c → one (difQ a b c) = one (decide (a ≠ b)) := by
    intro a b c ha hb hc he
    unfold small at ha hb hc
    unfold difQ
    by_cases hab : a = b
    · have n1 : ¬ (a ≠ b ∧ a ≠ c ∧ b ≠ c) := by omega
      have n2 : ¬ a ≠ b := by omega
      simp only [one, decide_eq_true_eq, if_neg n1, if_neg n2]
    · have n1 : a ≠ b ∧ a ≠ c ∧ b ≠ c := by omega
      simp only [one, decide_eq_true_eq, if_pos n1, if_pos (show a ≠ b from hab)]
  unfold cnt dif
  rw [tr1 x1 y1 z1 h2.1, tr1 x2 y2 z2 h2.2.1, tr1 x3 y3 z3 h2.2.2.1, tr1 x4 y4 z4 h2.2.2.2]

end Go.Proofs.Ytfbcjcfhdclklaa.cards
