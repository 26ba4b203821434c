/- Comparing cards: the program's and the model's. -/
import Derived.Test.YtkmkochganknmaaNm
namespace Go.Proofs.Ytkmkochganknmaa.cards
open Go.RowKit
set_option linter.unusedVariables false

def cmpI (a b : Int) : Int := if a < b then -1 else if b < a then 1 else 0
/-- Cards compared trait by trait. -/
def cmpC (x y : Cd) : Int := if cmpI x.a y.a ≠ 0 then cmpI x.a y.a else if cmpI x.b y.b ≠ 0 then cmpI x.b y.b else if cmpI x.c y.c ≠ 0 then cmpI x.c y.c else cmpI x.d y.d
theorem cmpI_zero {a b : Int} : cmpI a b = 0 ↔ a = b := by unfold cmpI; split <;> (try split) <;> omega
theorem cmpI_neg {a b : Int} : cmpI a b < 0 ↔ a < b := by unfold cmpI; split <;> (try split) <;> omega
/-- Of cards it is their numbers that are compared. -/
theorem cmp_num {x y : Cd} (hx : x.ok = true) (hy : y.ok = true) : (cmpC x y < 0 ↔ num x < num y) ∧ (cmpC x y = 0 ↔ num x = num y) := by
  obtain ⟨⟨x1, x2⟩, ⟨x3, x4⟩, ⟨x5, x6⟩, x7, x8⟩ := Cd.bd hx
  obtain ⟨⟨y1, y2⟩, ⟨y3, y4⟩, ⟨y5, y6⟩, y7, y8⟩ := Cd.bd hy
  unfold cmpC num
  by_cases ha : x.a = y.a
  · rw [if_neg (by rw [cmpI_zero.2 ha]; simp)]
    by_cases hb : x.b = y.b
    · rw [if_neg (by rw [cmpI_zero.2 hb]; simp)]
      by_cases hc : x.c = y.c
      · rw [if_neg (by rw [cmpI_zero.2 hc]; simp), cmpI_neg, cmpI_zero]; omega
      · rw [if_pos (by rw [ne_eq, cmpI_zero]; exact hc), cmpI_neg, cmpI_zero]; omega
    · rw [if_pos (by rw [ne_eq, cmpI_zero]; exact hb), cmpI_neg, cmpI_zero]; omega
  · rw [if_pos (by rw [ne_eq, cmpI_zero]; exact ha), cmpI_neg, cmpI_zero]; omega
theorem cmpC_bd (x y : Cd) : -1 ≤ cmpC x y ∧ cmpC x y ≤ 1 := by
  have h : ∀ a b, -1 ≤ cmpI a b ∧ cmpI a b ≤ 1 := fun a b => by unfold cmpI; split <;> (try split) <;> omega
  have := h x.a y.a; have := h x.b y.b; have := h x.c y.c; have := h x.d y.d
  unfold cmpC; split <;> (try split) <;> (try split) <;> omega

end Go.Proofs.Ytkmkochganknmaa.cards
