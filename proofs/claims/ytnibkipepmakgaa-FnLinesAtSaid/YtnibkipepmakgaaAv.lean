/- Slices of cards of the call's own that are not nil; all cards of another slice are appended, at a step of a region that draws too. -/
import Derived.Test.YtnibkipepmakgaaAt
import Derived.Deep.RegionLaw
namespace Go.Proofs.Ytnibkipepmakgaa.cards
open Go.RowKit
set_option linter.unusedVariables false

/-- The call owns a slice of these cards, and it is not nil. -/
def OwnN (w : World) (B : Nat) (v : Value) (l : List Cd) : Prop := Own w B v l ∧ v ≠ .slice none 0 0
theorem OwnN.own {w : World} {B : Nat} {v : Value} {l : List Cd} (h : OwnN w B v l) : Own w B v l := h.1
theorem OwnN.below {w w1 : World} {B : Nat} {v : Value} {l : List Cd} (h : OwnN w B v l) (hb : Below w.heap.size w w1) : OwnN w1 B v l := ⟨h.1.below hb, h.2⟩
theorem OwnN.alloc {w : World} {B : Nat} {v : Value} {l : List Cd} (h : OwnN w B v l) (o : Obj) : OwnN (w.alloc o) B v l := ⟨h.1.alloc o, h.2⟩
theorem OwnN.drew {w : World} {B : Nat} {v : Value} {l : List Cd} (h : OwnN w B v l) : OwnN w.drew B v l := h
theorem OwnN.drewN {w : World} {B : Nat} {v : Value} {l : List Cd} (h : OwnN w B v l) (k : Nat) : OwnN (w.drewN k) B v l := h
theorem OwnN.base {w : World} {B B' : Nat} {v : Value} {l : List Cd} (h : OwnN w B v l) (hB : B' ≤ B) : OwnN w B' v l := ⟨h.1.base hB, h.2⟩
theorem OwnN.empty (w : World) (B : Nat) (hB : B ≤ w.heap.size) : OwnN (w.alloc (.cells #[] 54)) B (.slice (some ⟨w.heap.size, 0, none⟩) 0 0) [] := ⟨Own.empty w B hB, by simp⟩
theorem OwnN.form {w : World} {B : Nat} {v : Value} {l : List Cd} (h : OwnN w B v l) : ∃ g c, v = .slice (some ⟨g, 0, none⟩) l.length c ∧ l.length ≤ c ∧ Rd w (some ⟨g, 0, none⟩) (flat l) := by
  obtain ⟨h1, h2⟩ := h
  obtain ⟨p, c, hv, hc, hr, _⟩ := h1.form
  obtain ⟨_, ⟨e, _⟩ | ⟨g, cap, cur, e, _⟩⟩ := h1
  · exact absurd e h2
  · rw [hv] at e
    injection e with e1 e2 e3
    subst e1
    exact ⟨g, c, hv, hc, hr⟩
set_option maxRecDepth 100000 in
theorem run_append_cards (W : World) (ty : TypeId) (B : Nat) (v : Value) (l l2 : List Cd) (p : Option Addr) (m c : Nat) (hO : Own W B v l) (hm : l2.length = m) (hR : Rd W p (flat l2)) (h0 : p = none → c = 0) (hl : l.length + m ≤ 1000000000) (hB : B ≤ W.heap.size) :
    ∃ v' w', (Builtin.append_ #[24, 24] ty #[v, .slice p m c]).run Try.prog W = .ok v' w' ∧ Own w' B v' (l ++ l2) ∧ Below B W w' ∧ W.grownBy w' v.ownBlock ∧ (v ≠ .slice none 0 0 → v' ≠ .slice none 0 0) ∧ (v'.ownBlock = v.ownBlock ∨ v'.ownBlock = some W.heap.size) := by
  obtain ⟨i, hi, hz, hsz, hb⟩ := info_parts a4info
  have hgo : W.grownBy W v.ownBlock := ⟨rfl, rfl, rfl, Nat.le_refl _, fun _ _ _ => rfl⟩
  cases p with
  | none =>
    have hm0 : l2 = [] := by
      cases l2 with
      | nil => rfl
      | cons x r => obtain ⟨b, o, e, _⟩ := hR (by rw [flat_len]; simp); cases e
    subst hm0
    obtain rfl : m = 0 := hm.symm
    obtain rfl := h0 rfl
    exact ⟨v, W, run_append_owned_none (P := Try.prog) (w := W) B 24 ty 54 i 4 Try.underlying24 hi v l.length (flat l) hO, by rw [List.append_nil]; exact hO, Below.refl _ _, hgo, fun h => h, .inl rfl⟩
  | some q =>
    obtain ⟨v', w', hr, g1, g2, g3, g4⟩ := run_append_own_at (P := Try.prog) W B 24 ty 54 i (.agg #[.int .i64 0, .int .i64 0, .int .i64 0, .int .i64 0]) 4 32 Try.underlying24 hi hz hsz hb rfl (by decide) v l.length (flat l) hO q m c (flat l2) (by rw [flat_len, hm]; omega) (fun j u hu => by
        obtain ⟨b, o, e, _, hc⟩ := hR (Nat.lt_of_le_of_lt (Nat.zero_le _) (List.getElem?_eq_some_iff.1 hu).1)
        injection e with e
        subst e
        have hadd : (⟨b, o, none⟩ : Addr).add j = ⟨b, o + j, none⟩ := by unfold Addr.add; split <;> simp_all
        rw [hadd]; exact hc j u hu) (flat_one l2) (by simp only [maxLen]; omega) (by omega) hB
    refine ⟨v', w', hr, ?_, (Below.refl _ _).grown g2 hB (fun k hk => (World.ownsRow.lt hO k hk).1), g2, fun h e => h (g3.1 e).1, g4⟩
    unfold Own
    rw [List.length_append, flat_app, hm]; exact g1
/-- At a step of a region that draws. -/
theorem step_append_cards {ops : Array Oper} {o : Oper} {a : Act} {W : World} {K : Act → World → Prop} {Q : Exit → Act → World → Prop} {E : Prop} (hg : o.guard = none) (s x : Operand)
    (hop : o.op = .call { callee := .builtin .append, args := #[s, x], argTypes := #[24, 24] }) (B : Nat) (v : Value) (l l2 : List Cd) (p : Option Addr) (m c : Nat)
    (hs : a.eval s = v) (hx : a.eval x = .slice p m c) (hO : OwnN W B v l) (hm : l2.length = m) (hR : Rd W p (flat l2)) (h0 : p = none → c = 0) (hl : l.length + m ≤ 1000000000) (hB : B ≤ W.heap.size)
    (hK : ∀ v' w', OwnN w' B v' (l ++ l2) → Below B W w' → W.grownBy w' v.ownBlock → K (a.put o.dst v') w') : if Region.wanted o (yielded ops a.tmps) = true then Oper.wp Try.prog o a W K Q else E := by
  have hw : Region.wanted o (yielded ops a.tmps) = true := by simp [Region.wanted, hg]
  rw [if_pos hw]
  obtain ⟨v', w', hrun, g1, g2, g3, g4, _⟩ := run_append_cards W o.type B v l l2 p m c hO.1 hm hR h0 hl hB
  unfold Oper.wp
  simp only [execOp, hop, resolve, invoke, builtin, Sem.run_bind, Sem.run_pure, Result.andThen_ok, List.map_toArray, List.map_cons, List.map_nil, hs, hx, hrun]
  exact hK v' w' ⟨g1, g4 hO.2⟩ g2 g3
/-- At an operation of a plain region. -/
theorem list_append_cards {ops : Array Oper} {rest : List Oper} {o : Oper} {a : Act} {Q : Exit → Act → World → Prop} (hg : o.guard = none) (s x : Operand)
    (hop : o.op = .call { callee := .builtin .append, args := #[s, x], argTypes := #[24, 24] }) (B : Nat) (v : Value) (l l2 : List Cd) (p : Option Addr) (m c : Nat) (W : World)
    (hs : a.eval s = v) (hx : a.eval x = .slice p m c) (hO : Own W B v l) (hm : l2.length = m) (hR : Rd W p (flat l2)) (h0 : p = none → c = 0) (hl : l.length + m ≤ 1000000000) (hB : B ≤ W.heap.size)
    (hK : ∀ v' w', Own w' B v' (l ++ l2) → (v ≠ .slice none 0 0 → v' ≠ .slice none 0 0) → Below B W w' → W.grownBy w' v.ownBlock → wpList Try.prog ops Q rest (a.put o.dst v') w') : wpList Try.prog ops Q (o :: rest) a W := by
  refine wpList_plain hg fun K' hK' => ?_
  obtain ⟨v', w', hrun, g1, g2, g3, g4, _⟩ := run_append_cards W o.type B v l l2 p m c hO hm hR h0 hl hB
  unfold Oper.wp
  simp only [execOp, hop, resolve, invoke, builtin, Sem.run_bind, Sem.run_pure, Result.andThen_ok, List.map_toArray, List.map_cons, List.map_nil, hs, hx, hrun]
  exact hK' _ _ (hK v' w' g1 g4 g2 g3)
end Go.Proofs.Ytnibkipepmakgaa.cards
