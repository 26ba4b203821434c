/- Cards: numbers of cards and cards with numbers. -/
import Derived.Test.YtjpfjgoebdogjaaHd
namespace Go.Proofs.Ytjpfjgoebdogjaa.cards
open Go.RowKit
set_option linter.unusedVariables false

set_option maxRecDepth 100000 in
set_option maxHeartbeats 1000000 in
theorem card_of (n : Int) (w : World) (h0 : 0 ≤ n) (h1 : n ≤ 80) :
    Calls Try.prog 109 #[.int .i64 n] w fun e w' => e = .returned (cdAt n).val ∧ Below w.heap.size w w' := by
  have a3 : n / 3 / 3 / 3 % 3 = n / 27 := by omega
  have a2 : n / 3 / 3 % 3 = n / 9 % 3 := by omega
  have A3 := Lib.hid a3
  have A2 := Lib.hid a2
  clear a3 a2
  go_enter Try.func109, Try.ntmps109
  go_wp2
  refine wp_loop_rounds 5 ?_
  repeat (rw [rounds_succ]; go_wp2)
  exact bodyPost_ret (v := (cdAt n).val) (by simp [results, Try.results109, go_sem, cdAt, A3.out, A2.out, *]) rfl ⟨rfl, by repeat (first | with_reducible exact Below.refl _ _ | with_reducible exact HB.out | with_reducible apply Below.drew | with_reducible apply bdN | with_reducible refine Below.alloc ?_ (by first | exact Nat.le_refl _ | with_reducible exact HB.out.size | omega | (simp; done) | (simp; omega) | (have := HB.out.size; simp at *; omega)) _)⟩
end Go.Proofs.Ytjpfjgoebdogjaa.cards
