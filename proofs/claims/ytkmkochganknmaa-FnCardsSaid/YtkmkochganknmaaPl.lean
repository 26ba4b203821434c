/- The place of a card in a hand: the program's binary search. -/
import Derived.Test.YtkmkochganknmaaCp
import Derived.IntWalk
namespace Go.Proofs.Ytkmkochganknmaa.cards
open Go.RowKit
set_option linter.unusedVariables false

def sorted (l : List Cd) : Prop := l.Pairwise fun x y => num x < num y
/-- How many cards of a hand are less than a card. -/
def less (l : List Cd) (c : Cd) : Nat := (l.takeWhile fun x => decide (num x < num c)).length
theorem less_le (l : List Cd) (c : Cd) : less l c ≤ l.length := by unfold less; exact (List.takeWhile_sublist _).length_le
theorem less_is : ∀ {l : List Cd} {c : Cd} {i : Nat}, i ≤ l.length → (∀ k x, k < i → l[k]? = some x → num x < num c) → (∀ x, l[i]? = some x → ¬ num x < num c) → i = less l c
  | [], c, i, h, _, _ => by simp at h; subst h; rfl
  | y :: r, c, 0, h, _, h2 => by
    have := h2 y rfl
    simp [less, this]
  | y :: r, c, i + 1, h, h1, h2 => by
    have hy := h1 0 y (by omega) rfl
    have ih := less_is (l := r) (c := c) (i := i) (by simpa using h) (fun k x hk hx => h1 (k + 1) x (by omega) (by simpa using hx)) (fun x hx => h2 x (by simpa using hx))
    unfold less at ih ⊢
    rw [List.takeWhile_cons, if_pos (by simpa using hy), List.length_cons, ← ih]
theorem sorted_lt {l : List Cd} (h : sorted l) {i j : Nat} {x y : Cd} (hij : i < j) (hx : l[i]? = some x) (hy : l[j]? = some y) : num x < num y := by
  obtain ⟨hi, rfl⟩ := List.getElem?_eq_some_iff.1 hx
  obtain ⟨hj, rfl⟩ := List.getElem?_eq_some_iff.1 hy
  exact List.pairwise_iff_getElem.1 h i j hi hj hij
/-- Is the card there? -/
def there (l : List Cd) (c : Cd) : Bool := decide (∃ x, l[less l c]? = some x ∧ num x = num c)

end Go.Proofs.Ytkmkochganknmaa.cards
