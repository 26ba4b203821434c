/- Hands that the law makes: its own functions walked. -/
import Derived.Test.YtnibkipepmakgaaRw
namespace Go.Proofs.Ytnibkipepmakgaa.cards
open Go.RowKit
set_option linter.unusedVariables false

def szLeft (n : Nat) (left : Int) : Int := if left - n < 0 then -1 else left - n
/-- The copy when i cards are copied. -/
def part (l : List Cd) (n i : Nat) : List Cd := l.take i ++ List.replicate (n - i) zero
theorem part_zero (l : List Cd) (n : Nat) : part l n 0 = List.replicate n zero := by simp [part]
theorem part_all {l : List Cd} {n : Nat} (h : l.length = n) : part l n n = l := by simp [part, ← h]
theorem part_len {l : List Cd} {n i : Nat} (h : l.length = n) (hi : i ≤ n) : (part l n i).length = n := by simp [part]; omega
theorem part_set {l : List Cd} {n i : Nat} {x : Cd} (h : l.length = n) (hi : i < n) (hx : l[i]? = some x) : (part l n i).set i x = part l n (i + 1) := by
  unfold part
  rw [List.set_append_right _ _ (by simp; omega), take_snoc hx, List.append_assoc]
  have e : i - (l.take i).length = 0 := by simp; omega
  rw [e, show n - i = (n - (i + 1)) + 1 by omega, List.replicate_succ]
  rfl

theorem same_self (x : Cd) : same x x = true := by simp [same]
/-- What a marked card holds, and a row whose first i cards are marked. -/
def mk (k i : Nat) : Cd := ⟨(k : Int) + 4 * (i : Int), (k : Int) + 4 * (i : Int) + 1, (k : Int) + 4 * (i : Int) + 1 + 1, (k : Int) + 4 * (i : Int) + 1 + 1 + 1⟩
def mks (k : Nat) (l : List Cd) (i : Nat) : List Cd := (List.range i).map (mk k) ++ l.drop i
theorem mks_zero (k : Nat) (l : List Cd) : mks k l 0 = l := by simp [mks]
theorem mks_len {k : Nat} {l : List Cd} {n i : Nat} (h : l.length = n) (hi : i ≤ n) : (mks k l i).length = n := by simp [mks]; omega
theorem mks_set {k : Nat} {l : List Cd} {n i : Nat} (h : l.length = n) (hi : i < n) : (mks k l i).set i (mk k i) = mks k l (i + 1) := by
  unfold mks
  rw [List.set_append_right _ _ (by simp), List.range_succ, List.map_append, List.append_assoc]
  have e : i - ((List.range i).map (mk k)).length = 0 := by simp
  rw [e, List.drop_eq_getElem_cons (by omega)]
  rfl
def marked (k n : Nat) : List Cd := (List.range n).map (mk k)
theorem mks_all {k : Nat} {l : List Cd} {n : Nat} (h : l.length = n) : mks k l n = marked k n := by simp [mks, marked, ← h]
theorem marked_len (k n : Nat) : (marked k n).length = n := by simp [marked]
theorem marked_at {k n i : Nat} (h : i < n) : (marked k n)[i]? = some (mk k i) := by simp [marked, h]

/-- A store into the one row that may turn. -/
theorem grown_set {a w : World} {g : Nat} (h : a.grownBy w (some g)) (o : Nat) (u : Value) : a.grownBy (w.setCell ⟨g, o, none⟩ u) (some g) :=
  ⟨h.os, h.tape, h.output, by simpa [World.setCell] using h.size, fun i hi hne => (Below.heap_setCell w ⟨g, o, none⟩ u i (fun e => hne (by rw [e]))).trans (h.block i hi hne)⟩
theorem szLeft_yes {n : Nat} (h : n ≤ 1048576) : 0 ≤ szLeft n 1048576 ∧ szLeft n 1048576 ≤ 1048576 := by unfold szLeft; split <;> omega
theorem szLeft_no {n : Nat} (h : ¬ n ≤ 1048576) : szLeft n 1048576 < 0 := by unfold szLeft; split <;> omega
theorem Box.marked {w w1 : World} {g : Nat} {x : Cd} {row : Option Nat} (h : Box w g x) (hg : w.grownBy w1 row) (h2 : ∀ k, row = some k → g < k) : Box w1 g x :=
  (hg.block g h.lt (fun e => Nat.lt_irrefl _ (h2 g e.symm))).trans h
end Go.Proofs.Ytnibkipepmakgaa.cards
