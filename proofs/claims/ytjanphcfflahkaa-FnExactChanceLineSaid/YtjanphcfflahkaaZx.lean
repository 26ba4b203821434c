/- All pickings visited: what is wanted for the walk. -/
import Derived.Test.YtjanphcfflahkaaZb
import Derived.Test.YtjanphcfflahkaaZg
import Derived.Test.YtjanphcfflahkaaPs
namespace Go.Proofs.Ytjanphcfflahkaa.parting
open Go.RowKit
open cards maps
set_option linter.unusedVariables false

set_option maxRecDepth 100000 in
theorem run_fresh3 (W : World) (ty : TypeId) (ps : List A3) (b o m g : Nat) (q : A3) (hm : ps.length = m) (hl : m ≤ 1000000) (hr : Rd W (some ⟨b, o, none⟩) (A3.flat ps)) (hg : TBox W g q) :
    ∃ v' w', (Builtin.append_ #[75, 75] ty #[.slice (some ⟨b, o, none⟩) m m, .slice (some ⟨g, 0, none⟩) 1 1]).run Try.prog W = .ok v' w' ∧ OwnA3 w' W.heap.size v' (ps ++ [q]) ∧ (∃ g' c', v' = .slice (some ⟨g', 0, none⟩) (m + 1) c') ∧ Below W.heap.size W w' := by
  subst hm
  obtain ⟨i, hi, hz, hsz, hb⟩ := info_parts A3.info
  have hnews : ∀ j u, q.cells[j]? = some u → W.cell? ((⟨g, 0, none⟩ : Addr).add j) = some u := fun j u hu => by
    have hj : j < 3 := by have := (List.getElem?_eq_some_iff.1 hu).1; simpa [A3.cells] using this
    have hadd : (⟨g, 0, none⟩ : Addr).add j = ⟨g, j, none⟩ := by unfold Addr.add; split <;> simp_all
    rw [hadd, cell_of_row _ _ j _ _ _ hg]
    rw [← hu]; simp [A3.cells]
  have holds : ∀ j u, (A3.flat ps)[j]? = some u → W.cell? ((⟨b, o, none⟩ : Addr).add j) = some u := fun j u hu => by
    obtain ⟨b', o', e, _, hc⟩ := hr (Nat.lt_of_le_of_lt (Nat.zero_le _) (List.getElem?_eq_some_iff.1 hu).1)
    injection e with e
    injection e with e1 e2
    subst e1; subst e2
    have hadd : (⟨b, o, none⟩ : Addr).add j = ⟨b, o + j, none⟩ := by unfold Addr.add; split <;> simp_all
    rw [hadd]; exact hc j u hu
  have hrun := run_append_grow (P := Try.prog) W 75 ty 58 i (.agg #[.int .i64 0, .int .i64 0, .int .i64 0]) Try.underlying75 hi hz ⟨b, o, none⟩ ps.length ps.length (A3.flat ps) (by rw [hsz, A3.flat_len]; omega) holds ⟨g, 0, none⟩ 1 1 q.cells (by rw [hsz]; rfl) hnews (by omega) (by omega) (growslice_fits (by omega) (by rw [hb]; omega))
  have e : A3.flat (ps ++ [q]) = A3.flat ps ++ q.cells := by simp [A3.flat]
  have hlen : (ps ++ [q]).length = ps.length + 1 := by simp
  refine ⟨_, _, hrun, ?_, ⟨_, _, rfl⟩, ((Below.refl _ _).drew).alloc (Nat.le_refl _) _⟩
  unfold OwnA3
  rw [hlen, e]
  refine ⟨by rw [← e, A3.flat_len, hlen]; omega, .inr ⟨W.heap.size, _, _, rfl, Nat.le_refl _, heap_alloc_new W.drew _, grownCap_ge W _ _ _, grownCap_le_maxLen W _ _ _ (by simp only [maxLen]; omega), ?_, ?_⟩⟩
  · have hge := grownCap_ge W (ps.length + 1) ps.length 58
    have hfl : (A3.flat ps).length = 3 * ps.length := A3.flat_len ps
    simp only [Array.size_append, List.size_toArray, size_zeroCells, hfl]
    have e3 : (Value.agg #[.int .i64 0, .int .i64 0, .int .i64 0]).cells.size = 3 := rfl
    have e4 : q.cells.length = 3 := rfl
    rw [e3, e4]; omega
  · simp only [Array.toList_append, List.append_assoc]
    rw [← List.append_assoc, show (ps.length + 1) * 3 = (A3.flat ps ++ q.cells).length by rw [List.length_append, A3.flat_len]; simp [A3.cells]; omega]
    exact List.take_left
/-- At an operation of a region. -/
theorem step_fresh3 {ops : Array Oper} {o : Oper} {a : Act} {W : World} {K : Act → World → Prop} {Q : Exit → Act → World → Prop} {E : Prop} (hg : o.guard = none) (s x : Operand)
    (hop : o.op = .call { callee := .builtin .append, args := #[s, x], argTypes := #[75, 75] }) (ps : List A3) (b of_ m g : Nat) (q : A3)
    (hs : a.eval s = .slice (some ⟨b, of_, none⟩) m m) (hx : a.eval x = .slice (some ⟨g, 0, none⟩) 1 1) (hm : ps.length = m) (hl : m ≤ 1000000) (hr : Rd W (some ⟨b, of_, none⟩) (A3.flat ps)) (hb : TBox W g q)
    (hK : ∀ g' c' w', OwnA3 w' W.heap.size (.slice (some ⟨g', 0, none⟩) (m + 1) c') (ps ++ [q]) → Below W.heap.size W w' → K (a.put o.dst (.slice (some ⟨g', 0, none⟩) (m + 1) c')) w') : if Region.wanted o (yielded ops a.tmps) = true then Oper.wp Try.prog o a W K Q else E := by
  have hw : Region.wanted o (yielded ops a.tmps) = true := by simp [Region.wanted, hg]
  rw [if_pos hw]
  obtain ⟨v', w', hrun, g1, ⟨g', c', rfl⟩, g3⟩ := run_fresh3 W o.type ps b of_ m g q hm hl hr hb
  unfold Oper.wp
  simp only [execOp, hop, resolve, invoke, builtin, Sem.run_bind, Sem.run_pure, Result.andThen_ok, List.map_toArray, List.map_cons, List.map_nil, hs, hx, hrun]
  exact hK g' c' w' g1 g3

theorem Turn.and_ {S : Nat → Prop} {w a b : World} (h : Turn S w a) (k : Below a.heap.size a b) : Turn S w b :=
  h.trans ((Turn.of_below k).weak (fun _ _ h => h.elim))
theorem Turn.then1 {S : Nat → Prop} {w a b : World} (h : Turn S w a) (k : Turn S a b) : Turn S w b := h.trans k
/-- Reads as xs, and not from the block gv. -/
def RdN (gv : Nat) (w : World) (p : Option Addr) (xs : List Value) : Prop := Rd w p xs ∧ (0 < xs.length → ∀ b o, p = some ⟨b, o, none⟩ → b ≠ gv)
theorem RdN.turn {gv : Nat} {w w' : World} {p : Option Addr} {xs : List Value} (h : RdN gv w p xs) (ht : Turn (fun j => j = gv) w w') : RdN gv w' p xs := by
  refine ⟨fun hp => ?_, h.2⟩
  obtain ⟨b, o, rfl, hlt, hc⟩ := h.1 hp
  have hne := h.2 hp b o rfl
  refine ⟨b, o, rfl, Nat.lt_of_lt_of_le hlt ht.size, fun j v hv => ?_⟩
  rw [World.cell?_of_block (w := w) (a := ⟨b, o + j, none⟩) (ht.block b hlt hne)]
  exact hc j v hv
theorem RdN.below {gv : Nat} {w w' : World} {p : Option Addr} {xs : List Value} (h : RdN gv w p xs) (hb : Below w.heap.size w w') : RdN gv w' p xs := ⟨h.1.below hb, h.2⟩
theorem RdN.take {gv : Nat} {w : World} {p : Option Addr} {l : List A3} (h : RdN gv w p (A3.flat l)) (k : Nat) : RdN gv w p (A3.flat (l.take k)) :=
  ⟨h.1.takeA3 k, fun hp => h.2 (by rw [A3.flat_take, List.length_take] at hp; omega)⟩
theorem RdN.drop {gv : Nat} {w : World} {b o : Nat} {l : List A3} (h : RdN gv w (some ⟨b, o, none⟩) (A3.flat l)) (k : Nat) : RdN gv w (some ⟨b, o + k * 3, none⟩) (A3.flat (l.drop k)) :=
  ⟨h.1.dropA3 k, fun hp b' o' e => by
    injection e with e
    injection e with e1 e2
    subst e1
    exact h.2 (by rw [A3.flat_drop, List.length_drop] at hp; omega) b o rfl⟩
/-- A picking that the search has made from block B on, none of them gv. -/
def PsO (B gv : Nat) (w : World) (g m c : Nat) (ps : List A3) : Prop := OwnA3 w B (.slice (some ⟨g, 0, none⟩) m c) ps ∧ g ≠ gv
theorem PsO.rd {B gv : Nat} {w : World} {g m c : Nat} {ps : List A3} (h : PsO B gv w g m c ps) : Rd w (some ⟨g, 0, none⟩) (A3.flat ps) := h.1.rd
theorem PsO.below {B gv : Nat} {w w' : World} {g m c : Nat} {ps : List A3} (h : PsO B gv w g m c ps) (hb : Below w.heap.size w w') : PsO B gv w' g m c ps := ⟨h.1.below hb, h.2⟩
theorem PsO.turn {B gv : Nat} {w w' : World} {g m c : Nat} {ps : List A3} (h : PsO B gv w g m c ps) (ht : Turn (fun j => j = gv) w w') : PsO B gv w' g m c ps := by
  obtain ⟨⟨hl, h0 | ⟨g', cap, cur, e, hB, hg, r⟩⟩, hne⟩ := h
  · exact ⟨⟨hl, .inl h0⟩, hne⟩
  · injection e with e1 e2 e3
    injection e1 with e1
    injection e1 with e1
    subst e1
    exact ⟨⟨hl, .inr ⟨g, cap, cur, by rw [e2, e3], hB, (ht.block g (Array.getElem?_eq_some_iff.1 hg).1 hne).trans hg, r⟩⟩, hne⟩
theorem tls_yes {x : A3} {r ps : List A3} (h : free ps x = true) : tls (x :: r) ps = (ps ++ [x]) :: tls r (ps ++ [x]) ++ tls r ps := by rw [tls, if_pos h]
theorem tls_no {x : A3} {r ps : List A3} (h : free ps x = false) : tls (x :: r) ps = tls r ps := by rw [tls, if_neg (by simp [h])]; rfl
end Go.Proofs.Ytjanphcfflahkaa.parting
