/- GreedyPicking: the program's and the model's. -/
import Derived.Test.YtnibkipepmakgaaZb
import Derived.Test.YtnibkipepmakgaaZd
namespace Go.Proofs.Ytnibkipepmakgaa.parting
open Go.RowKit
open cards maps
set_option linter.unusedVariables false

/-- The lines that are taken of a list, one after the other. -/
def grd : List A3 → List A3 → List A3
  | out, [] => out
  | out, x :: r => grd (if free out x = true then out ++ [x] else out) r
theorem grd_len : ∀ (r out : List A3), (grd out r).length ≤ out.length + r.length
  | [], out => by simp [grd]
  | x :: r, out => by
    have := grd_len r (if free out x = true then out ++ [x] else out)
    rw [grd, List.length_cons]
    split at this <;> simp_all <;> omega
theorem grd_snoc : ∀ (r out : List A3) (x : A3), grd out (r ++ [x]) = if free (grd out r) x = true then grd out r ++ [x] else grd out r
  | [], out, x => rfl
  | y :: r, out, x => by
    simp only [List.cons_append, grd]
    exact grd_snoc r _ x
noncomputable def grdR (l : List Cd) : List A3 × Bool := if handB l = true then (grd [] (allL l l.length), true) else ([], false)
theorem lines_len {l : List Cd} (h : isHand l) : (allL l l.length).length ≤ 729 := by
  have h1 := h.1
  have h2 := allL_len l l.length
  have h3 : l.length * l.length ≤ 27 * 27 := Nat.mul_le_mul h1 h1
  omega
theorem grdR_len (l : List Cd) : (grdR l).1.length ≤ 100000000 := by
  unfold grdR
  split
  · rename_i h
    have h1 := lines_len (handB_true.1 h)
    have h2 := grd_len (allL l l.length) []
    show (grd [] (allL l l.length)).length ≤ _
    simp at h2
    omega
  · simp

end Go.Proofs.Ytnibkipepmakgaa.parting
