/- Steps through a region that draws its order: loads, calls, what is told at once. -/
import Derived.Test.YtkmkochganknmaaRg
namespace Go.Proofs.Ytkmkochganknmaa.reg
open Go.RowKit
open cards
set_option linter.unusedVariables false

def BI (W : World) (w' : World) : Prop := Below W.heap.size W w'
theorem clo_BI (W : World) (obj : Obj) : Clo W.heap.size obj (BI W) (BI W) := ⟨fun _ h => h, fun _ h => h.size, fun _ h => Below.alloc h h.size _⟩
theorem BI.next {W w w' : World} (h : BI W w) (b : Below w.heap.size w w') : BI W w' := Below.trans h (b.mono h.size)
theorem BI.start (W : World) : BI W W.drew := (Below.refl _ _).drew
section
variable {ops : Array Oper} {Q : Exit → Act → World → Prop} {n0 : Nat} {obj : Obj} {fin : Act → (World → Prop) → Prop} {S : World → Prop}
theorem chain_call (d : Tmp) {i : Nat} {r : List (Bool × Nat)} {a : Act} {W : World} {f : FuncId} {args : Array Value} {v : Value} {o : Oper} (ho : ops[i]? = some o) (hd : o.dst = some d) (hg : o.guard = none)
    (he : ∀ w, (execOp a.eval o).run Try.prog w = .ok (.enter f args) w) (h : ∀ w, BI W w → Calls Try.prog f args w (fun e w' => e = .returned v ∧ Below w.heap.size w w'))
    (hr : chainA Try.prog ops (BI W) W.heap.size obj fin r (a.put (some d) v) (BI W)) : chainA Try.prog ops (BI W) W.heap.size obj fin ((false, i) :: r) a (BI W) :=
  ⟨o, ho, hg, fun w hI => by
    rw [he]
    exact (h w hI).mono fun e w' ⟨h1, h2⟩ => ⟨v, h1, h2, BI W, clo_BI W obj, BI.next hI h2, hd ▸ hr⟩⟩
/-- A call whose answer is not told by its arguments alone. -/
theorem chain_callE (d : Tmp) {i : Nat} {r : List (Bool × Nat)} {a : Act} {I : World → Prop} {f : FuncId} {args : Array Value} {o : Oper} (ho : ops[i]? = some o) (hd : o.dst = some d) (hg : o.guard = none)
    (he : ∀ w, (execOp a.eval o).run Try.prog w = .ok (.enter f args) w)
    (h : ∀ w, I w → Calls Try.prog f args w (fun e w' => ∃ v, e = .returned v ∧ Below w.heap.size w w' ∧ ∃ I', Clo n0 obj S I' ∧ I' w' ∧ chainA Try.prog ops S n0 obj fin r (a.put (some d) v) I')) : chainA Try.prog ops S n0 obj fin ((false, i) :: r) a I :=
  ⟨o, ho, hg, fun w hI => by
    rw [he]
    exact (h w hI).mono fun e w' ⟨v, h1, h2, h3⟩ => ⟨v, h1, h2, hd ▸ h3⟩⟩
theorem chain_pure (d : Tmp) {i : Nat} {r : List (Bool × Nat)} {a : Act} {I : World → Prop} {v : Value} {o : Oper} (ho : ops[i]? = some o) (hd : o.dst = some d) (hg : o.guard = none)
    (he : ∀ w, (execOp a.eval o).run Try.prog w = .ok (.value v) w)
    (hr : chainA Try.prog ops S n0 obj fin r (a.put (some d) v) I) : chainA Try.prog ops S n0 obj fin ((true, i) :: r) a I :=
  ⟨o, v, ho, .inl ⟨wanted_of hg, fun w _ => he w⟩, hd ▸ hr⟩
theorem chain_load (d : Tmp) {i : Nat} {r : List (Bool × Nat)} {a : Act} {I : World → Prop} {o : Oper} (ho : ops[i]? = some o) (hd : o.dst = some d) (hg : o.guard = none)
    (T : TypeId) (x : Operand) (hx : o.op = .load T x) {g : Nat} (hp : a.eval x = .pointer (some ⟨g, 0, none⟩)) {t : TypeId} (cs : Array Value) {D : TypeDesc} (hS : ∀ w, S w → w.heap[g]? = some (.cells cs t))
    (hu : Try.prog.underlying T = some D) (hD : D.isRow = true) (hi : (Try.prog.info? T).map (·.size) = some cs.size)
    (hr : chainA Try.prog ops S n0 obj fin r (a.put (some d) (.agg cs)) I) : chainA Try.prog ops S n0 obj fin ((true, i) :: r) a I :=
  ⟨o, .agg cs, ho, yieldsIf_load_mid (wanted_of hg) T x hx g 0 hp cs.toList D (fun w hw j v hv => by rw [cell_of_row w g _ _ _ _ (hS w hw), Nat.zero_add]; simpa using hv) hu hD (by simpa using hi), hd ▸ hr⟩
end
section
variable {ops : Array Oper} {Q : Exit → Act → World → Prop}
/-- A region without a new block: what is known is that nothing has turned. -/
theorem region_BI {id : Nat} {a : Act} {W : World} (r : List (Bool × Nat))
    (hok : chainOkP .any ops r (Array.replicate ops.size false) = true) (hlen : ops.size = r.length) (hsel : Region.noSelect ops = true)
    (h : chainA Try.prog ops (BI W) W.heap.size zero.obj (atEndP (Q .normal)) r a (BI W)) : (Code.region id ops true).wp Try.prog Q a W :=
  region_plain r W.heap.size zero.obj (BI W) (BI W) (by kernel_rfl) hok hlen hsel (fun _ h => h) (BI.start W) h
end
end Go.Proofs.Ytkmkochganknmaa.reg
