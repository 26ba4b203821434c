/- Slices of arrays of 2 numbers: comparisons, marks, and marks looked for again. -/
import Derived.Test.YtjanphcfflahkaaR2
namespace Go.Proofs.Ytjanphcfflahkaa.cards
open Go.RowKit
set_option linter.unusedVariables false

def same_A2 (x y : A2) : Bool := decide (x.a = y.a ∧ x.b = y.b)
theorem same_A2_self (x : A2) : same_A2 x x = true := by simp [same_A2]
theorem same_A2_n0 {x y : A2} (h : (x.a != y.a) = true) : false = same_A2 x y := by unfold same_A2; simp at h ⊢; omega
theorem same_A2_n1 {x y : A2} (h : (x.b != y.b) = true) : false = same_A2 x y := by unfold same_A2; simp at h ⊢; omega
theorem same_A2_y {x y : A2} (h0 : (x.a != y.a) = false) (h1 : (x.b != y.b) = false) : true = same_A2 x y := by unfold same_A2; simp at h0 h1 ⊢; omega
set_option maxRecDepth 100000 in
set_option maxHeartbeats 1000000 in
theorem eq_A2 (x y : A2) (w : World) :
    Calls Try.prog 20 #[x.val, y.val] w fun e w' => e = .returned (.bool (same_A2 x y)) ∧ Below w.heap.size w w' := by
  go_enter Try.func20, Try.ntmps20
  go_wp2
  refine wp_loop_rounds 3 ?_
  repeat (any_goals (rw [rounds_succ]; go_wp2; try (go_quiet (fail); go_wp2)))
  all_goals go_ret
  all_goals refine ⟨ret_bool ?_, by repeat (first | with_reducible exact Below.refl _ _ | with_reducible exact HB.out | with_reducible apply Below.drew | with_reducible apply bdN | with_reducible refine Below.alloc ?_ (by first | exact Nat.le_refl _ | with_reducible exact HB.out.size | omega | (simp; done) | (simp; omega) | (have := HB.out.size; simp at *; omega)) _ | with_reducible refine Below.setCell ?_ (by first | exact Nat.le_refl _ | with_reducible exact HB.out.size | omega | (simp; done) | (simp; omega) | (have := HB.out.size; simp at *; omega)) _)⟩
  all_goals first | exact same_A2_n0 ‹_› | exact same_A2_n1 ‹_› | exact same_A2_y ‹_› ‹_›

def mkA2 (k i : Nat) : A2 := ⟨(k : Int) + 2 * (i : Int), (k : Int) + 2 * (i : Int) + 1⟩
def mksA2 (k : Nat) (l : List A2) (i : Nat) : List A2 := (List.range i).map (mkA2 k) ++ l.drop i
theorem mksA2_zero (k : Nat) (l : List A2) : mksA2 k l 0 = l := by simp [mksA2]
theorem mksA2_len {k : Nat} {l : List A2} {n i : Nat} (h : l.length = n) (hi : i ≤ n) : (mksA2 k l i).length = n := by simp [mksA2]; omega
theorem mksA2_set {k : Nat} {l : List A2} {n i : Nat} (h : l.length = n) (hi : i < n) : (mksA2 k l i).set i (mkA2 k i) = mksA2 k l (i + 1) := by
  unfold mksA2
  rw [List.set_append_right _ _ (by simp), List.range_succ, List.map_append, List.append_assoc]
  have e : i - ((List.range i).map (mkA2 k)).length = 0 := by simp
  rw [e, List.drop_eq_getElem_cons (by omega)]
  rfl
def markedA2 (k n : Nat) : List A2 := (List.range n).map (mkA2 k)
theorem mksA2_all {k : Nat} {l : List A2} {n : Nat} (h : l.length = n) : mksA2 k l n = markedA2 k n := by simp [mksA2, markedA2, ← h]
theorem markedA2_len (k n : Nat) : (markedA2 k n).length = n := by simp [markedA2]
theorem markedA2_at {k n i : Nat} (h : i < n) : (markedA2 k n)[i]? = some (mkA2 k i) := by simp [markedA2, h]

end Go.Proofs.Ytjanphcfflahkaa.cards
