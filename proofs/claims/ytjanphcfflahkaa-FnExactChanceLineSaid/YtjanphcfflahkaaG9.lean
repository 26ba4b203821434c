/- Single operations on slices of cards, for regions that draw their order. -/
import Derived.Test.YtjanphcfflahkaaG8
import Derived.Test.YtjanphcfflahkaaJf
import Derived.Test.YtjanphcfflahkaaAp
namespace Go.Proofs.Ytjanphcfflahkaa.chance
open Go.RowKit
open cards reg
set_option linter.unusedVariables false

theorem exec_tail {k n b ad cp : Nat} (hk : k ≤ n) (hn : n ≤ cp) {a : Act} {o : Oper} {p q : Operand} (ho : o.op = .slice 29 p (some q) none none) (hp : a.eval p = .slice (some ⟨b, ad, none⟩) n cp) (hq : a.eval q = .int .i64 k) (w : World) :
    (execOp a.eval o).run Try.prog w = .ok (.value (.slice (some ⟨b, if cp = k then ad else ad + k * 4, none⟩) (n - k) (cp - k))) w := by
  have h0 : (0 : Int) ≤ (k : Int) := by omega
  have h1 : (k : Int) ≤ (n : Int) := by omega
  have h2 : (n : Int) ≤ (cp : Int) := by omega
  unfold execOp
  rw [ho]
  simp only [hp, hq, Option.map]
  go_simp
  split <;> rfl
theorem exec_lit {c : Cd} {a : Act} {o : Oper} {t : Tmp} (ho : o.op = .buildSlice 29 1 #[(0, .tmp t)]) (hp : a.tmps[t]?.getD undef = c.val) (w : World) :
    (execOp a.eval o).run Try.prog w = .ok (.value (.slice (some ⟨w.heap.size, 0, none⟩) 1 1)) (w.alloc c.obj) := by
  unfold execOp
  rw [ho]
  go_simp
theorem exec_less1 {v r : Int} (hr : v - 1 = r) (hv : 0 ≤ v ∧ v ≤ 1000000) {a : Act} {o : Oper} {p : Operand} {s : TypeId} (ho : o.op = .binOp .sub 3 p (.const (.int .i64 1)) s) (hp : a.eval p = .int .i64 v) (w : World) :
    (execOp a.eval o).run Try.prog w = .ok (.value (.int .i64 r)) w := by
  subst hr
  have h0 : (0 : Int) ≤ v := by omega
  have h1 : v ≤ 1000000 := by omega
  unfold execOp
  rw [ho]
  simp only [hp]
  go_simp
  exact IntWalk.i64_in _ (by omega)
theorem exec_push {a : Act} {o : Oper} {W w' : World} {s x : Operand} {vs vx v' : Value} (hop : o.op = .call { callee := .builtin .append, args := #[s, x], argTypes := #[29, 29] }) (hs : a.eval s = vs) (hx : a.eval x = vx)
    (hrun : (Builtin.append_ #[29, 29] o.type #[vs, vx]).run Try.prog W = .ok v' w') : (execOp a.eval o).run Try.prog W = .ok (.value v') w' := by
  simp only [execOp, hop, resolve, invoke, builtin, Sem.run_bind, Sem.run_pure, Result.andThen_ok, List.map_toArray, List.map_cons, List.map_nil, hs, hx, hrun]
section
variable {ops : Array Oper} {S : World → Prop} {K : Act → Prop}
theorem j_card (d : Tmp) {i : Nat} {r : List Nat} {a : Act} {o : Oper} (ho : ops[i]? = some o) (hd : o.dst = some d) (hg : o.guard = none)
    (x : Operand) (hx : o.op = .load 22 x) {g off : Nat} (hp : a.eval x = .pointer (some ⟨g, off, none⟩)) (c : Cd)
    (hS : ∀ w, S w → w.cell? ⟨g, off, none⟩ = some (.int .i64 c.a) ∧ w.cell? ⟨g, off + 1, none⟩ = some (.int .i64 c.b) ∧ w.cell? ⟨g, off + 2, none⟩ = some (.int .i64 c.c) ∧ w.cell? ⟨g, off + 3, none⟩ = some (.int .i64 c.d))
    (hr : pureJ Try.prog ops S K r (a.put (some d) c.val)) : pureJ Try.prog ops S K (i :: r) a :=
  ⟨o, c.val, ho, yieldsIf_load_mid (wanted_of hg) 22 x hx g off hp c.cells _ (fun w hw j v hv => by
    obtain ⟨h0, h1, h2, h3⟩ := hS w hw
    match j, hv with
    | 0, hv => simp [Cd.cells] at hv; rw [← hv]; exact h0
    | 1, hv => simp [Cd.cells] at hv; rw [← hv]; exact h1
    | 2, hv => simp [Cd.cells] at hv; rw [← hv]; exact h2
    | 3, hv => simp [Cd.cells] at hv; rw [← hv]; exact h3
    | n + 4, hv => simp [Cd.cells] at hv) Try.underlying22 rfl (by kernel_rfl), hd ▸ hr⟩
end
end Go.Proofs.Ytjanphcfflahkaa.chance
