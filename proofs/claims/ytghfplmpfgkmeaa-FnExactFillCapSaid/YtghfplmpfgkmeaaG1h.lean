/- The rest of a hand: the program's and the model's. -/
import Derived.Test.YtghfplmpfgkmeaaIh
import Derived.Test.YtghfplmpfgkmeaaNm
import Derived.Test.YtghfplmpfgkmeaaAn
import Derived.Test.YtghfplmpfgkmeaaAp
import Derived.Test.YtghfplmpfgkmeaaAt
import Derived.Test.YtghfplmpfgkmeaaHs
namespace Go.Proofs.Ytghfplmpfgkmeaa.chance
open Go.RowKit
open cards
set_option linter.unusedVariables false

/-- The cards below number k that a hand has not. -/
noncomputable def rst (l : List Cd) (k : Nat) : List Cd := ((List.range k).filter fun i : Nat => !there l (cdAt (i : Int))).map fun i : Nat => cdAt (i : Int)
theorem rst_zero (l : List Cd) : rst l 0 = [] := rfl
theorem rst_yes {l : List Cd} {k : Nat} (h : there l (cdAt (k : Int)) = false) : rst l (k + 1) = rst l k ++ [cdAt (k : Int)] := by
  unfold rst
  rw [List.range_succ, List.filter_append, List.map_append]
  simp [h]
theorem rst_no {l : List Cd} {k : Nat} (h : there l (cdAt (k : Int)) = true) : rst l (k + 1) = rst l k := by
  unfold rst
  rw [List.range_succ, List.filter_append, List.map_append]
  simp [h]
theorem rst_len (l : List Cd) (k : Nat) : (rst l k).length ≤ k := by
  unfold rst
  rw [List.length_map]
  exact Nat.le_trans (List.length_filter_le _ _) (by rw [List.length_range]; exact Nat.le_refl _)
theorem rst_ok (l : List Cd) {k : Nat} (h : k ≤ 81) : (rst l k).all Cd.ok = true := List.all_eq_true.2 fun x hx => by
  unfold rst at hx
  obtain ⟨i, hi, rfl⟩ := List.mem_map.1 hx
  have := List.mem_range.1 (List.mem_filter.1 hi).1
  exact cdAt_ok (by omega) (by omega)

set_option maxRecDepth 100000 in
set_option maxHeartbeats 1000000 in
theorem l2_at (n : Int) (w : World) (h0 : 0 ≤ n) (h1 : n ≤ 80) :
    Calls Try.prog 16 #[.int .i64 n] w fun e w' => e = .returned (cdAt n).val ∧ Below w.heap.size w w' := by
  go_enter Try.func16, Try.ntmps16
  go_wp2
  exact bodyPost_ret (v := (cdAt n).val) (by simp [results, Try.results16, go_sem, cdAt, *]) rfl ⟨rfl, by repeat (first | with_reducible exact Below.refl _ _ | with_reducible exact HB.out | with_reducible apply Below.drew | with_reducible apply bdN | with_reducible refine Below.alloc ?_ (by first | exact Nat.le_refl _ | with_reducible exact HB.out.size | omega | (simp; done) | (simp; omega) | (have := HB.out.size; simp at *; omega)) _ | with_reducible refine Below.setCell ?_ (by first | exact Nat.le_refl _ | with_reducible exact HB.out.size | omega | (simp; done) | (simp; omega) | (have := HB.out.size; simp at *; omega)) _)⟩

end Go.Proofs.Ytghfplmpfgkmeaa.chance
