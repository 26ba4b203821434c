/- Three numbers that the law copies. -/
import Derived.Test.YtngfdfgeoieebabQt
import Derived.Test.YtngfdfgeoieebabQw
namespace Go.Proofs.Ytngfdfgeoieebab.deal
open Go.RowKit
open cards
set_option linter.unusedVariables false

set_option maxRecDepth 100000 in
theorem to_a3 (x : A3) (w : World) :
    Calls Try.prog 52 #[x.val] w fun e w' => e = .returned x.val ∧ Below w.heap.size w w' := by
  go_enter Try.func52, Try.ntmps52
  go_wp2
  go_rounds 4
  exact bodyPost_ret (v := x.val) (by simp [results, Try.results52, go_sem]) rfl ⟨rfl, by repeat (first | with_reducible exact Below.refl _ _ | with_reducible exact HB.out | with_reducible apply Below.drew | with_reducible apply bdN | with_reducible refine Below.alloc ?_ (by first | exact Nat.le_refl _ | with_reducible exact HB.out.size | omega | (simp; done) | (simp; omega) | (have := HB.out.size; simp at *; omega)) _ | with_reducible refine Below.setCell ?_ (by first | exact Nat.le_refl _ | with_reducible exact HB.out.size | omega | (simp; done) | (simp; omega) | (have := HB.out.size; simp at *; omega)) _)⟩
end Go.Proofs.Ytngfdfgeoieebab.deal
