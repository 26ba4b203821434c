/- A region that draws its order: operations that only read, then the rest one behind the other, calls among them. -/
import Derived.Test.YtjanphcfflahkaaEj
namespace Go.Proofs.Ytjanphcfflahkaa.cards
open Go.RowKit
open reg
set_option linter.unusedVariables false

section
variable {P : Program} {md : Region.Mode} {ops : Array Oper} {Q : Exit → Act → World → Prop} {S : World → Prop}
def runsU (P : Program) (ops : Array Oper) (S : World → Prop) (K : Act → World → Prop) : List Nat → Act → World → Prop
  | [], a, w => K a w
  | j :: r, a, w => ∃ o, ops[j]? = some o ∧ o.guard = none ∧ (Upon P (fun v w' => S w' ∧ runsU P ops S K r (a.put o.dst v) w') ((execOp a.eval o).run P w) ∨ ∃ w', (execOp a.eval o).run P w = .ok .skip w' ∧ S w' ∧ runsU P ops S K r (a.put o.dst undef) w')
theorem sequ_of : ∀ (st : List Nat) (l : Array Bool) (a : Act) (w : World), seqS md ops st l = true → runsU P ops S (Q .normal) st a w → wpAnyH P md ops Q S st.length l a w
  | [], l, a, w, hok, h => wpAnyH_done (by simpa [seqS] using hok) h 0
  | j :: r, l, a, w, hok, h => by
    simp only [seqS, Bool.and_eq_true, beq_iff_eq] at hok
    obtain ⟨o, ho, hg, hrun⟩ := h
    refine wpAnyH_all hok.1 (by simp) fun i hi => ?_
    obtain rfl : i = j := by simpa using hi
    rcases hrun with hrun | ⟨w', hrun, hS', hr⟩
    · exact wpOp_upon ho hg hrun fun v w' hJ => ⟨hJ.1, sequ_of r _ _ _ hok.2 hJ.2⟩
    · unfold wpOp
      simp only [ho, wanted_of hg, if_true]
      refine .inl ?_
      unfold Oper.wp
      rw [hrun]
      exact ⟨hS', sequ_of r _ _ _ hok.2 hr⟩
theorem runsU_mono {K K2 : Act → World → Prop} (hK : ∀ a w, K a w → K2 a w) : ∀ (st : List Nat) (a : Act) (w : World), runsU P ops S K st a w → runsU P ops S K2 st a w
  | [], a, w, h => hK a w h
  | j :: st, a, w, h => by
    obtain ⟨o, e1, e2, e3⟩ := h
    refine ⟨o, e1, e2, ?_⟩
    rcases e3 with e3 | ⟨w', h1, h2, h3⟩
    · exact .inl (Upon.imp e3 fun v w' hv => ⟨hv.1, runsU_mono hK st _ _ hv.2⟩)
    · exact .inr ⟨w', h1, h2, runsU_mono hK st _ _ h3⟩
theorem u_val {K : Act → World → Prop} {j : Nat} {r : List Nat} {a : Act} {w w' : World} {o : Oper} {v : Value} (ho : ops[j]? = some o) (hg : o.guard = none) (he : (execOp a.eval o).run P w = .ok (.value v) w') (hS : S w') (hr : runsU P ops S K r (a.put o.dst v) w') : runsU P ops S K (j :: r) a w :=
  ⟨o, ho, hg, .inl (by rw [he]; exact ⟨hS, hr⟩)⟩
theorem u_skip {K : Act → World → Prop} {j : Nat} {r : List Nat} {a : Act} {w w' : World} {o : Oper} (ho : ops[j]? = some o) (hg : o.guard = none) (he : (execOp a.eval o).run P w = .ok .skip w') (hS : S w') (hr : runsU P ops S K r (a.put o.dst undef) w') : runsU P ops S K (j :: r) a w :=
  ⟨o, ho, hg, .inr ⟨w', he, hS, hr⟩⟩
theorem u_call {K : Act → World → Prop} {j : Nat} {r : List Nat} {a : Act} {w : World} {o : Oper} {f : FuncId} {args : Array Value} (ho : ops[j]? = some o) (hg : o.guard = none) (he : (execOp a.eval o).run P w = .ok (.enter f args) w)
    (hc : Calls P f args w (fun e w' => ∃ v, e = .returned v ∧ S w' ∧ runsU P ops S K r (a.put o.dst v) w')) : runsU P ops S K (j :: r) a w :=
  ⟨o, ho, hg, .inl (Upon.enter he hc)⟩
/-- THE LAW. -/
theorem region_seq {id : Nat} {a : Act} {w : World} (r st : List Nat) (hm : P.follows .mixedOrders = true)
    (hok : okPJ .any ops [] st r (Array.replicate ops.size false) = true) (hlen : ops.size = r.length + (0 + st.length)) (hsel : Region.noSelect ops = true)
    (S : World → Prop) (hc : ∀ w', BI w w' → S w')
    (h : pureJ P ops S (fun b => ∀ w', BI w w' → runsU P ops S (Q .normal) st b w') r a) : (Code.region id ops true).wp P Q a w := by
  refine wp_region_noPanic (wp_region_held hm (S := S) ?_)
  have k := pures_of (md := .any) (Q := NoPanic Q) (S := S) (I := BI w) (js := []) (st := st) hsel (fun _ _ _ _ _ h => h) hc (K := fun b => ∀ w', BI w w' → runsU P ops S (Q .normal) st b w') (fun b w' l hK hI hok => by
    simp only [List.length_nil, okJ, Bool.and_eq_true] at hok
    rw [List.length_nil, Nat.zero_add]
    exact sequ_of st l b w' hok.2 (runsU_mono (fun a w h => NoPanic.normal h) st _ _ (hK w' hI))) r _ a _ hok (BI.start w) h
  simp only [List.length_nil] at k
  rw [← hlen] at k; exact k
end
end Go.Proofs.Ytjanphcfflahkaa.cards
