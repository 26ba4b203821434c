/- A region that draws its order, with guarded operations and calls, one behind the other, and no new block that is kept. -/
import Derived.Test.YtkmkochganknmaaVz
import Derived.Test.YtkmkochganknmaaHd
namespace Go.Proofs.Ytkmkochganknmaa.cards
open Go.RowKit
open reg
set_option linter.unusedVariables false

section
variable {P : Program} {md : Region.Mode} {ops : Array Oper} {Q : Exit → Act → World → Prop} {S : World → Prop}
def chainW (P : Program) (ops : Array Oper) (S : World → Prop) (K : Act → World → Prop) : List (Bool × Nat) → Act → (World → Prop) → Prop
  | [], a, I => ∀ w, I w → K a w
  | (true, i) :: r, a, I => ∃ o v, ops[i]? = some o ∧ YieldsIf P ops S o v a ∧ chainW P ops S K r (a.put o.dst v) I
  | (false, i) :: r, a, I => ∃ o, ops[i]? = some o ∧ Region.wanted o (yielded ops a.tmps) = true ∧ ∀ w, I w → Upon P (fun v w' => ∃ I' : World → Prop, (∀ w, I' w → S w) ∧ I' w' ∧ chainW P ops S K r (a.put o.dst v) I') ((execOp a.eval o).run P w)
theorem wpOp_uponW {i : Nat} {o : Oper} {a : Act} {w : World} {R : Value → World → Prop} {K : Act → World → Prop} (hi : ops[i]? = some o) (hg : Region.wanted o (yielded ops a.tmps) = true)
    (h : Upon P R ((execOp a.eval o).run P w)) (hK : ∀ v w', R v w' → K (a.put o.dst v) w') : wpOp P ops Q i K a w := by
  unfold wpOp
  simp only [hi, hg, if_true]
  refine .inl ?_
  unfold Oper.wp
  generalize (execOp a.eval o).run P w = r at h
  cases r with
  | ok n w' =>
    cases n <;> simp only [Upon] at h <;> simp only [Oper.upon]
    case value v => exact hK _ _ h
    case enter f args => exact h.mono fun e w'' ⟨v, he, hr⟩ => by subst he; exact hK _ _ hr
  | halt x w' => simp only [Upon] at h
theorem w_of {K : Act → World → Prop} (hsel : Region.noSelect ops = true) (hQ : ∀ c (d : Option Tmp) v a w, Q (.panic c) (a.put d v) w → Q (.panic c) a w) (hfin : ∀ a w, K a w → Q .normal a w) :
    ∀ (r : List (Bool × Nat)) (l : Array Bool) (a : Act) (I : World → Prop) (w : World), chainOkP md ops r l = true → (∀ w, I w → S w) → I w → chainW P ops S K r a I → wpAnyH P md ops Q S r.length l a w
  | [], l, a, I, w, hok, hc, hI, h => wpAnyH_done (by simpa [chainOkP] using hok) (hfin _ _ (h w hI)) 0
  | (true, i) :: r, l, a, I, w, hok, hc, hI, h => by
    simp only [chainOkP, Bool.and_eq_true] at hok
    obtain ⟨⟨h1, h2⟩, h7⟩ := hok
    obtain ⟨o, v, ho, hy, hr⟩ := h
    exact wpAnyH_take (v := v) ho hsel h1 h2 (fun c a w => hQ c _ _ a w) hy (hc _ hI) (w_of hsel hQ hfin r _ _ I w h7 hc hI hr)
  | (false, i) :: r, l, a, I, w, hok, hc, hI, h => by
    simp only [chainOkP, Bool.and_eq_true, beq_iff_eq] at hok
    obtain ⟨h1, h7⟩ := hok
    obtain ⟨o, ho, hgd, hr⟩ := h
    refine wpAnyH_all h1 (by simp) fun j hj => ?_
    obtain rfl : j = i := by simpa using hj
    exact wpOp_uponW ho hgd (hr w hI) fun v w' ⟨I', hc', hI', hr'⟩ => ⟨hc' _ hI', w_of hsel hQ hfin r _ _ I' w' h7 hc' hI' hr'⟩
/-- THE LAW. -/
theorem region_W {id : Nat} {a : Act} {w : World} (r : List (Bool × Nat)) (S I : World → Prop) (hm : P.follows .mixedOrders = true)
    (hok : chainOkP .any ops r (Array.replicate ops.size false) = true) (hlen : ops.size = r.length) (hsel : Region.noSelect ops = true) (hc : ∀ w, I w → S w) (hI : I w.drew)
    (h : chainW P ops S (Q .normal) r a I) : (Code.region id ops true).wp P Q a w := by
  refine wp_region_noPanic (wp_region_held hm (S := S) ?_)
  have k := w_of (md := .any) (Q := NoPanic Q) (S := S) (K := Q .normal) hsel (fun _ _ _ _ _ h => h) (fun a w h => NoPanic.normal h) r _ a I _ hok hc hI h
  rw [← hlen] at k; exact k
end
section
variable {ops : Array Oper} {S : World → Prop} {K : Act → World → Prop}
theorem w_pure (d : Tmp) {i : Nat} {r : List (Bool × Nat)} {a : Act} {I : World → Prop} {v : Value} {o : Oper} (ho : ops[i]? = some o) (hd : o.dst = some d) (hg : Region.wanted o (yielded ops a.tmps) = true)
    (he : ∀ w, (execOp a.eval o).run Try.prog w = .ok (.value v) w) (hr : chainW Try.prog ops S K r (a.put (some d) v) I) : chainW Try.prog ops S K ((true, i) :: r) a I :=
  ⟨o, v, ho, .inl ⟨hg, fun w _ => he w⟩, hd ▸ hr⟩
theorem w_skip (d : Tmp) {i : Nat} {r : List (Bool × Nat)} {a : Act} {I : World → Prop} {o : Oper} (ho : ops[i]? = some o) (hd : o.dst = some d) (hg : Region.wanted o (yielded ops a.tmps) = false)
    (hr : chainW Try.prog ops S K r (a.put (some d) undef) I) : chainW Try.prog ops S K ((true, i) :: r) a I :=
  ⟨o, undef, ho, .inr ⟨hg, rfl⟩, hd ▸ hr⟩
theorem w_card (d : Tmp) {i : Nat} {r : List (Bool × Nat)} {a : Act} {I : World → Prop} {o : Oper} (ho : ops[i]? = some o) (hd : o.dst = some d) (hg : Region.wanted o (yielded ops a.tmps) = true)
    (x : Operand) (hx : o.op = .load 24 x) {g off : Nat} (hp : a.eval x = .pointer (some ⟨g, off, none⟩)) (c : Cd)
    (hS : ∀ w, S w → w.cell? ⟨g, off, none⟩ = some (.int .i64 c.a) ∧ w.cell? ⟨g, off + 1, none⟩ = some (.int .i64 c.b) ∧ w.cell? ⟨g, off + 2, none⟩ = some (.int .i64 c.c) ∧ w.cell? ⟨g, off + 3, none⟩ = some (.int .i64 c.d))
    (hr : chainW Try.prog ops S K r (a.put (some d) c.val) I) : chainW Try.prog ops S K ((true, i) :: r) a I :=
  ⟨o, c.val, ho, yieldsIf_load_mid hg 24 x hx g off hp c.cells _ (fun w hw j v hv => by
    obtain ⟨h0, h1, h2, h3⟩ := hS w hw
    match j, hv with
    | 0, hv => simp [Cd.cells] at hv; rw [← hv]; exact h0
    | 1, hv => simp [Cd.cells] at hv; rw [← hv]; exact h1
    | 2, hv => simp [Cd.cells] at hv; rw [← hv]; exact h2
    | 3, hv => simp [Cd.cells] at hv; rw [← hv]; exact h3
    | n + 4, hv => simp [Cd.cells] at hv) Try.underlying24 rfl (by kernel_rfl), hd ▸ hr⟩
theorem w_call (d : Tmp) {i : Nat} {r : List (Bool × Nat)} {a : Act} {W : World} {f : FuncId} {args : Array Value} {v : Value} {o : Oper} (ho : ops[i]? = some o) (hd : o.dst = some d) (hg : Region.wanted o (yielded ops a.tmps) = true)
    (he : ∀ w, (execOp a.eval o).run Try.prog w = .ok (.enter f args) w) (h : ∀ w, BI W w → Calls Try.prog f args w (fun e w' => e = .returned v ∧ Below w.heap.size w w'))
    (hr : chainW Try.prog ops (BI W) K r (a.put (some d) v) (BI W)) : chainW Try.prog ops (BI W) K ((false, i) :: r) a (BI W) :=
  ⟨o, ho, hg, fun w hI => by
    rw [he]
    exact (h w hI).mono fun e w' ⟨h1, h2⟩ => ⟨v, h1, BI W, fun _ h => h, BI.next hI h2, hd ▸ hr⟩⟩
/-- A region that starts where nothing has turned. -/
theorem region_WB {id : Nat} {a : Act} {W : World} {Q : Exit → Act → World → Prop} (r : List (Bool × Nat)) (hok : chainOkP .any ops r (Array.replicate ops.size false) = true) (hlen : ops.size = r.length) (hsel : Region.noSelect ops = true)
    (h : chainW Try.prog ops (BI W) (Q .normal) r a (BI W)) : (Code.region id ops true).wp Try.prog Q a W :=
  region_W r (BI W) (BI W) (by kernel_rfl) hok hlen hsel (fun _ h => h) (BI.start W) h
theorem exec_neqC {x y : Cd} (hx : x.ok = true) (hy : y.ok = true) {a : Act} {o : Oper} {p q : Operand} {s : TypeId} (ho : o.op = .binOp .neq 24 p q s) (hp : a.eval p = x.val) (hq : a.eval q = y.val) (w : World) :
    (execOp a.eval o).run Try.prog w = .ok (.value (.bool (!same x y))) w := by
  have h := eq_run x y hx hy w
  unfold execOp
  rw [ho]
  simp only [hp, hq]
  go_simp
theorem exec_eqlC {x y : Cd} (hx : x.ok = true) (hy : y.ok = true) {a : Act} {o : Oper} {p q : Operand} {s : TypeId} (ho : o.op = .binOp .eql 24 p q s) (hp : a.eval p = x.val) (hq : a.eval q = y.val) (w : World) :
    (execOp a.eval o).run Try.prog w = .ok (.value (.bool (same x y))) w := by
  have h := eq_run x y hx hy w
  unfold execOp
  rw [ho]
  simp only [hp, hq]
  go_simp
end
end Go.Proofs.Ytkmkochganknmaa.cards
