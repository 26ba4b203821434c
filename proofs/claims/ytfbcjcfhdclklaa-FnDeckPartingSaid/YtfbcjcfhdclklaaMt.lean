/- Maps: FixedCards, the program's and the model's. -/
import Derived.Test.YtfbcjcfhdclklaaRm
import Derived.Test.YtfbcjcfhdclklaaNm
import Derived.Test.YtfbcjcfhdclklaaIs
namespace Go.Proofs.Ytfbcjcfhdclklaa.maps
open Go.RowKit
open cards reg
set_option linter.unusedVariables false

theorem exec_eql (x y : Cd) (hx : x.ok = true) (hy : y.ok = true) {a : Act} {o : Oper} {p q : Operand} {t : TypeId} (ho : o.op = .binOp .eql 48 p q t) (hp : a.eval p = x.val) (hq : a.eval q = y.val) (w : World) :
    (execOp a.eval o).run Try.prog w = .ok (.value (.bool (same x y))) w := by
  have he := eq_run x y hx hy
  unfold execOp
  rw [ho]
  simp only [hp, hq]
  go_simp
theorem exec_neq (x y : Cd) (hx : x.ok = true) (hy : y.ok = true) {a : Act} {o : Oper} {p q : Operand} {t : TypeId} (ho : o.op = .binOp .neq 48 p q t) (hp : a.eval p = x.val) (hq : a.eval q = y.val) (w : World) :
    (execOp a.eval o).run Try.prog w = .ok (.value (.bool (!same x y))) w := by
  have he := eq_run x y hx hy
  unfold execOp
  rw [ho]
  simp only [hp, hq]
  go_simp
/-- The numbers below k of the cards of which P says yes. -/
def numP (P : Cd → Bool) : Nat → List Int
  | 0 => []
  | k + 1 => if P (cdAt (k : Int)) = true then numP P k ++ [(k : Int)] else numP P k
theorem numP_len (P : Cd → Bool) (k : Nat) : (numP P k).length ≤ k := by
  induction k with
  | zero => simp [numP]
  | succ k ih =>
    show (if _ then _ else _ : List Int).length ≤ _
    split
    · rw [List.length_append]; simp only [List.length_cons, List.length_nil]; omega
    · omega
theorem numP_yes {P : Cd → Bool} {k : Nat} (h : P (cdAt (k : Int)) = true) : numP P (k + 1) = numP P k ++ [(k : Int)] := by show (if _ then _ else _) = _; rw [if_pos h]
theorem numP_no {P : Cd → Bool} {k : Nat} (h : P (cdAt (k : Int)) = false) : numP P (k + 1) = numP P k := by show (if _ then _ else _) = _; rw [if_neg (by simp [h])]
theorem cdAt_okM {n : Int} (h0 : 0 ≤ n) (h1 : n ≤ 80) : (cdAt n).ok = true := Cd.mk_ok (by unfold cdAt; simp only; omega)
theorem OwnI.baseM {w : World} {B B' : Nat} {v : Value} {l : List Int} (h : OwnI w B v l) (hB : B' ≤ B) : OwnI w B' v l := by
  obtain ⟨hl, h0 | ⟨g, cap, cur, e, hb, r⟩⟩ := h
  · exact ⟨hl, .inl h0⟩
  · exact ⟨hl, .inr ⟨g, cap, cur, e, Nat.le_trans hB hb, r⟩⟩
/-- What FixedCards returns. -/
def fxR (m : Mp) : List Int × Bool := if m.ok = true then (numP (fun x => same (img m x) x) 81, true) else ([], false)
theorem fxR_len (m : Mp) : (fxR m).1.length ≤ 1000 := by
  unfold fxR; split
  · exact Nat.le_trans (numP_len _ _) (by omega)
  · simp

set_option maxRecDepth 100000 in
set_option maxHeartbeats 1000000 in
theorem l2_atM (n : Int) (w : World) (h0 : 0 ≤ n) (h1 : n ≤ 80) :
    Calls Try.prog 83 #[.int .i64 n] w fun e w' => e = .returned (cdAt n).val ∧ Below w.heap.size w w' := by
  go_enter Try.func83, Try.ntmps83
  go_wp2_with fail
  exact bodyPost_ret (v := (cdAt n).val) (by simp [results, Try.results83, go_sem, cdAt, *]) rfl ⟨rfl, by repeat (first | with_reducible exact Below.refl _ _ | with_reducible exact HB.out | with_reducible apply Below.drew | with_reducible apply bdN | with_reducible refine Below.alloc ?_ (by first | exact Nat.le_refl _ | with_reducible exact HB.out.size | omega | (simp; done) | (simp; omega) | (have := HB.out.size; simp at *; omega)) _ | with_reducible refine Below.setCell ?_ (by first | exact Nat.le_refl _ | with_reducible exact HB.out.size | omega | (simp; done) | (simp; omega) | (have := HB.out.size; simp at *; omega)) _)⟩

end Go.Proofs.Ytfbcjcfhdclklaa.maps
