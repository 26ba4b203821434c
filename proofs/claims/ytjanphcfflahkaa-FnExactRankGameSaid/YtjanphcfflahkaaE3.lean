/- Slices of arrays of 3 numbers: comparisons, marks, and marks looked for again. -/
import Derived.Test.YtjanphcfflahkaaR3
namespace Go.Proofs.Ytjanphcfflahkaa.cards
open Go.RowKit
set_option linter.unusedVariables false

def same_A3 (x y : A3) : Bool := decide (x.a = y.a ∧ x.b = y.b ∧ x.c = y.c)
theorem same_A3_self (x : A3) : same_A3 x x = true := by simp [same_A3]
theorem same_A3_n0 {x y : A3} (h : (x.a != y.a) = true) : false = same_A3 x y := by unfold same_A3; simp at h ⊢; omega
theorem same_A3_n1 {x y : A3} (h : (x.b != y.b) = true) : false = same_A3 x y := by unfold same_A3; simp at h ⊢; omega
theorem same_A3_n2 {x y : A3} (h : (x.c != y.c) = true) : false = same_A3 x y := by unfold same_A3; simp at h ⊢; omega
theorem same_A3_y {x y : A3} (h0 : (x.a != y.a) = false) (h1 : (x.b != y.b) = false) (h2 : (x.c != y.c) = false) : true = same_A3 x y := by unfold same_A3; simp at h0 h1 h2 ⊢; omega
set_option maxRecDepth 100000 in
set_option maxHeartbeats 1000000 in
theorem eq_A3 (x y : A3) (w : World) :
    Calls Try.prog 113 #[x.val, y.val] w fun e w' => e = .returned (.bool (same_A3 x y)) ∧ Below w.heap.size w w' := by
  go_enter Try.func113, Try.ntmps113
  go_wp2
  refine wp_loop_rounds 4 ?_
  repeat (any_goals (rw [rounds_succ]; go_wp2; try (go_quiet (fail); go_wp2)))
  all_goals go_ret
  all_goals refine ⟨ret_bool ?_, by repeat (first | with_reducible exact Below.refl _ _ | with_reducible exact HB.out | with_reducible apply Below.drew | with_reducible apply bdN | with_reducible refine Below.alloc ?_ (by first | exact Nat.le_refl _ | with_reducible exact HB.out.size | omega | (simp; done) | (simp; omega) | (have := HB.out.size; simp at *; omega)) _ | with_reducible refine Below.setCell ?_ (by first | exact Nat.le_refl _ | with_reducible exact HB.out.size | omega | (simp; done) | (simp; omega) | (have := HB.out.size; simp at *; omega)) _)⟩
  all_goals first | exact same_A3_n0 ‹_› | exact same_A3_n1 ‹_› | exact same_A3_n2 ‹_› | exact same_A3_y ‹_› ‹_› ‹_›

def mkA3 (k i : Nat) : A3 := ⟨(k : Int) + 3 * (i : Int), (k : Int) + 3 * (i : Int) + 1, (k : Int) + 3 * (i : Int) + 1 + 1⟩
def mksA3 (k : Nat) (l : List A3) (i : Nat) : List A3 := (List.range i).map (mkA3 k) ++ l.drop i
theorem mksA3_zero (k : Nat) (l : List A3) : mksA3 k l 0 = l := by simp [mksA3]
theorem mksA3_len {k : Nat} {l : List A3} {n i : Nat} (h : l.length = n) (hi : i ≤ n) : (mksA3 k l i).length = n := by simp [mksA3]; omega
theorem mksA3_set {k : Nat} {l : List A3} {n i : Nat} (h : l.length = n) (hi : i < n) : (mksA3 k l i).set i (mkA3 k i) = mksA3 k l (i + 1) := by
  unfold mksA3
  rw [List.set_append_right _ _ (by simp), List.range_succ, List.map_append, List.append_assoc]
  have e : i - ((List.range i).map (mkA3 k)).length = 0 := by simp
  rw [e, List.drop_eq_getElem_cons (by omega)]
  rfl
def markedA3 (k n : Nat) : List A3 := (List.range n).map (mkA3 k)
theorem mksA3_all {k : Nat} {l : List A3} {n : Nat} (h : l.length = n) : mksA3 k l n = markedA3 k n := by simp [mksA3, markedA3, ← h]
theorem markedA3_len (k n : Nat) : (markedA3 k n).length = n := by simp [markedA3]
theorem markedA3_at {k n i : Nat} (h : i < n) : (markedA3 k n)[i]? = some (mkA3 k i) := by simp [markedA3, h]

end Go.Proofs.Ytjanphcfflahkaa.cards
