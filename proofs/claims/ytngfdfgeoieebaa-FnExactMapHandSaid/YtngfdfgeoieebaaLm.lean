/- All lines of a hand: the program and the model alike. -/
import Derived.Test.YtngfdfgeoieebaaTh
import Derived.Test.YtngfdfgeoieebaaR3
namespace Go.Proofs.Ytngfdfgeoieebaa.cards
open Go.RowKit
set_option linter.unusedVariables false

/-- The place of a card, or -1. -/
def place (l : List Cd) (c : Cd) : Int := if there l c = true then (less l c : Int) else -1
theorem there_none {l : List Cd} {c : Cd} (hs : sorted l) (h : ∀ (k : Nat) (y : Cd), l[k]? = some y → num y ≠ num c) : there l c = false := by
  unfold there
  exact decide_eq_false (fun ⟨x, hx, hn⟩ => h _ x hx hn)

def item (l : List Cd) (i j : Nat) : List A3 := match l[i]?, l[j]? with
  | some x, some y => if there l (third x y) = true ∧ j < less l (third x y) then [⟨i, j, less l (third x y)⟩] else []
  | _, _ => []
/-- The lines that begin with i, their second cards below j; and all lines that begin below i. -/
def rowL (l : List Cd) (i : Nat) : Nat → List A3
  | 0 => []
  | j + 1 => rowL l i j ++ (if i < j then item l i j else [])
def allL (l : List Cd) : Nat → List A3
  | 0 => []
  | i + 1 => allL l i ++ rowL l i l.length
theorem item_len (l : List Cd) (i j : Nat) : (item l i j).length ≤ 1 := by unfold item; split <;> (try split) <;> simp
theorem rowL_len (l : List Cd) (i : Nat) : ∀ j : Nat, (rowL l i j).length ≤ j
  | 0 => by simp [rowL]
  | j + 1 => by
    have := rowL_len l i j
    have := item_len l i j
    simp only [rowL, List.length_append]
    split <;> simp <;> omega
theorem allL_len (l : List Cd) : ∀ i : Nat, (allL l i).length ≤ i * l.length
  | 0 => by simp [allL]
  | i + 1 => by
    have := allL_len l i
    have := rowL_len l i l.length
    simp only [allL, List.length_append, Nat.succ_mul]
    omega
theorem rowL_low {l : List Cd} {i : Nat} : ∀ {j : Nat}, j ≤ i + 1 → rowL l i j = []
  | 0, _ => rfl
  | j + 1, h => by
    simp only [rowL]
    rw [rowL_low (by omega), if_neg (by omega)]; rfl
theorem rowL_step {l : List Cd} {i j : Nat} {x y : Cd} (hij : i < j) (hx : l[i]? = some x) (hy : l[j]? = some y) : rowL l i (j + 1) = rowL l i j ++ (if there l (third x y) = true ∧ j < less l (third x y) then [⟨i, j, less l (third x y)⟩] else []) := by
  simp only [rowL]
  rw [if_pos hij]
  unfold item
  rw [hx, hy]

end Go.Proofs.Ytngfdfgeoieebaa.cards
