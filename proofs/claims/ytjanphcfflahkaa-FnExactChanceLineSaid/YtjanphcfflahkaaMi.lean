/- Numbers looked for in slices of numbers. -/
import Derived.Test.YtjanphcfflahkaaIs
namespace Go.Proofs.Ytjanphcfflahkaa.maps
open Go.RowKit
open cards
set_option linter.unusedVariables false

/-- The place of a number in a list, or -1. -/
def fiI (c : Int) : List Int → Nat
  | [] => 0
  | x :: r => if c = x then 0 else fiI c r + 1
def posI (l : List Int) (c : Int) : Int := if c ∈ l then (fiI c l : Int) else -1
theorem fiI_at : ∀ {l : List Int} {c : Int} {k : Nat}, l[k]? = some c → (∀ (j : Nat) y, j < k → l[j]? = some y → c ≠ y) → fiI c l = k
  | [], c, k, h, _ => by simp at h
  | y :: r, c, 0, h, _ => by
    obtain rfl : y = c := by simpa using h
    simp [fiI]
  | y :: r, c, k + 1, h, hu => by
    have h0 := hu 0 y (by omega) rfl
    have ih := fiI_at (l := r) (k := k) (by simpa using h) (fun j z hj hz => hu (j + 1) z (by omega) (by simpa using hz))
    simp [fiI, h0, ih]
theorem posI_at {l : List Int} {c : Int} {k : Nat} (h : l[k]? = some c) (hu : ∀ (j : Nat) y, j < k → l[j]? = some y → c ≠ y) : (k : Int) = posI l c := by
  unfold posI
  rw [if_pos (List.mem_of_getElem? h), fiI_at h hu]
theorem posI_none {l : List Int} {c : Int} (hu : ∀ (j : Nat) y, l[j]? = some y → c ≠ y) : -1 = posI l c := by
  unfold posI
  rw [if_neg (fun h => by obtain ⟨j, hj⟩ := List.mem_iff_getElem?.1 h; exact hu j c hj rfl)]

end Go.Proofs.Ytjanphcfflahkaa.maps
