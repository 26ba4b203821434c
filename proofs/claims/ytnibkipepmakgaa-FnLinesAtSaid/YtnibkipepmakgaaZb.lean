/- Is a place covered; is a line apart from others: the program's and the model's. -/
import Derived.Test.YtnibkipepmakgaaZt
namespace Go.Proofs.Ytnibkipepmakgaa.parting
open Go.RowKit
open cards maps
set_option linter.unusedVariables false

theorem free_any (l : List A3) (x : A3) : (!cov l x.a && (!cov l x.b && !cov l x.c)) = free l x := by
  rw [free_cov]
  cases cov l x.a <;> cases cov l x.b <;> cases cov l x.c <;> rfl
end Go.Proofs.Ytnibkipepmakgaa.parting
