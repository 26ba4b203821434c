/- A line that is taken: the model. -/
import Derived.Test.YtjanphcfflahkaaQr
import Derived.Test.YtjanphcfflahkaaQs
import Derived.Deep.RegionLaw
namespace Go.Proofs.Ytjanphcfflahkaa.deal
open Go.RowKit
open cards
set_option linter.unusedVariables false

theorem DBox.past {w w1 : World} {g : Nat} {x : Dv} {v : Value} (h : DBox w g x) (hg : w.grownBy w1 v.ownBlock) (h2 : ∀ k, v.ownBlock = some k → k ≠ g) : DBox w1 g x :=
  (hg.block g h.lt (fun e => h2 g e.symm rfl)).trans h
theorem DBox.setV {w : World} {g : Nat} {t : TypeId} {s n : Int} {v0 : Value} (h : DBox w g ⟨t, s, n, v0⟩) (v : Value) : DBox (w.setCell ⟨g, 2, none⟩ v) g ⟨t, s, n, v⟩ := by
  unfold DBox at h ⊢
  rw [heap_setCell_same w g 2 _ _ _ h]
  rfl
theorem Own.apart {w : World} {B : Nat} {v : Value} {l : List Cd} (h : Own w B v l) {p : Addr} (hp : ∀ g, v.ownBlock = some g → g ≠ p.block) (u : Value) : Own (w.setCell p u) B v l := by
  obtain ⟨hl, h0 | ⟨g, cap, cur, e, hb, hg, r⟩⟩ := h
  · exact ⟨hl, .inl h0⟩
  · subst e
    exact ⟨hl, .inr ⟨g, cap, cur, rfl, hb, (Below.heap_setCell w p u g (hp g rfl)).trans hg, r⟩⟩
/-- One card is appended, at a step of a region that draws; it is told where the new slice lies. -/
theorem step_append_at {ops : Array Oper} {o : Oper} {a : Act} {W : World} {K : Act → World → Prop} {Q : Exit → Act → World → Prop} {E : Prop} (hg : o.guard = none) (s x : Operand)
    (hop : o.op = .call { callee := .builtin .append, args := #[s, x], argTypes := #[29, 29] }) (B : Nat) (v : Value) (l l2 : List Cd) (p : Option Addr) (m c : Nat)
    (hs : a.eval s = v) (hx : a.eval x = .slice p m c) (hO : OwnN W B v l) (hm : l2.length = m) (hR : Rd W p (flat l2)) (h0 : p = none → c = 0) (hl : l.length + m ≤ 1000000000) (hB : B ≤ W.heap.size)
    (hK : ∀ v' w', OwnN w' B v' (l ++ l2) → Below B W w' → W.grownBy w' v.ownBlock → (v'.ownBlock = v.ownBlock ∨ v'.ownBlock = some W.heap.size) → K (a.put o.dst v') w') : if Region.wanted o (yielded ops a.tmps) = true then Oper.wp Try.prog o a W K Q else E := by
  have hw : Region.wanted o (yielded ops a.tmps) = true := by simp [Region.wanted, hg]
  rw [if_pos hw]
  obtain ⟨v', w', hrun, g1, g2, g3, g4, g5⟩ := run_append_cards W o.type B v l l2 p m c hO.1 hm hR h0 hl hB
  unfold Oper.wp
  simp only [execOp, hop, resolve, invoke, builtin, Sem.run_bind, Sem.run_pure, Result.andThen_ok, List.map_toArray, List.map_cons, List.map_nil, hs, hx, hrun]
  exact hK v' w' ⟨g1, g4 hO.2⟩ g2 g3 g5
theorem inA_parts {t : A3} {k : Nat} (h : inA t k = false) : (k : Int) ≠ t.a ∧ (k : Int) ≠ t.b ∧ (k : Int) ≠ t.c := by
  unfold inA at h
  have := of_decide_eq_false h
  exact ⟨fun e => this (.inl e), fun e => this (.inr (.inl e)), fun e => this (.inr (.inr e))⟩

end Go.Proofs.Ytjanphcfflahkaa.deal
