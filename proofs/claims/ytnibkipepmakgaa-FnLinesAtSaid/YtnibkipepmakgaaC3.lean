/- Cards: numbers of cards and cards with numbers, in how many traits two differ: the program and the model alike. -/
import Derived.Test.YtnibkipepmakgaaC2
namespace Go.Proofs.Ytnibkipepmakgaa.cards
open Go.RowKit
set_option linter.unusedVariables false

def numR (x : Cd) : Int × Bool := if x.ok then (num x, true) else (0, false)

set_option maxRecDepth 100000 in
set_option maxHeartbeats 1000000 in
theorem l2_at (n : Int) (w : World) (h0 : 0 ≤ n) (h1 : n ≤ 80) :
    Calls Try.prog 38 #[.int .i64 n] w fun e w' => e = .returned (cdAt n).val ∧ Below w.heap.size w w' := by
  go_enter Try.func38, Try.ntmps38
  go_wp2
  exact bodyPost_ret (v := (cdAt n).val) (by simp [results, Try.results38, go_sem, cdAt, *]) rfl ⟨rfl, by repeat (first | with_reducible exact Below.refl _ _ | with_reducible exact HB.out | with_reducible apply Below.drew | with_reducible apply bdN | with_reducible refine Below.alloc ?_ (by first | exact Nat.le_refl _ | with_reducible exact HB.out.size | omega | (simp; done) | (simp; omega) | (have := HB.out.size; simp at *; omega)) _ | with_reducible refine Below.setCell ?_ (by first | exact Nat.le_refl _ | with_reducible exact HB.out.size | omega | (simp; done) | (simp; omega) | (have := HB.out.size; simp at *; omega)) _)⟩

end Go.Proofs.Ytnibkipepmakgaa.cards
