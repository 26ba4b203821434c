/- Slices of numbers: the law's own functions walked. -/
import Derived.Test.YtnibkipepmakgaaIs
namespace Go.Proofs.Ytnibkipepmakgaa.cards
open Go.RowKit
set_option linter.unusedVariables false

/-- A row whose first i numbers are marked. -/
def mi (k : Nat) (l : List Int) (i : Nat) : List Int := (List.range i).map (fun j => ((k + j : Nat) : Int)) ++ l.drop i
def markedI (k n : Nat) : List Int := (List.range n).map (fun j => ((k + j : Nat) : Int))
theorem mi_zero (k : Nat) (l : List Int) : mi k l 0 = l := by simp [mi]
theorem mi_len {k : Nat} {l : List Int} {n i : Nat} (h : l.length = n) (hi : i ≤ n) : (mi k l i).length = n := by simp [mi]; omega
theorem mi_set {k : Nat} {l : List Int} {n i : Nat} (h : l.length = n) (hi : i < n) : (mi k l i).set i ((k + i : Nat) : Int) = mi k l (i + 1) := by
  unfold mi
  rw [List.set_append_right _ _ (by simp), List.range_succ, List.map_append, List.append_assoc]
  have e : i - ((List.range i).map (fun j => ((k + j : Nat) : Int))).length = 0 := by simp
  rw [e, List.drop_eq_getElem_cons (by omega)]
  rfl
theorem mi_all {k : Nat} {l : List Int} {n : Nat} (h : l.length = n) : mi k l n = markedI k n := by simp [mi, markedI, ← h]
theorem markedI_len (k n : Nat) : (markedI k n).length = n := by simp [markedI]
theorem markedI_at {k n i : Nat} (h : i < n) : (markedI k n)[i]? = some ((k + i : Nat) : Int) := by simp [markedI, h]

end Go.Proofs.Ytnibkipepmakgaa.cards
