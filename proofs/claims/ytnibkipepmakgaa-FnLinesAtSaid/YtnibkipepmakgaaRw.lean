/- Hands that the law makes: copies, comparisons, marks, and marks looked for again. -/
import Derived.Test.YtnibkipepmakgaaNm
import Derived.OwnWalk
import Derived.Laws.OwnMore
import Derived.Laws.MakeOwn
import Derived.Laws.BytesArg
import Derived.Deep.AppendLies
namespace Go.Proofs.Ytnibkipepmakgaa.cards
open Go.RowKit
set_option linter.unusedVariables false

/-- The call owns a slice of the cards of a list, made from block B on. -/
def Own (w : World) (B : Nat) (v : Value) (l : List Cd) : Prop := w.ownsRow B 54 4 v l.length (flat l)
theorem Own.form {w : World} {B : Nat} {v : Value} {l : List Cd} (h : Own w B v l) : ∃ p c, v = .slice p l.length c ∧ l.length ≤ c ∧ Rd w p (flat l) ∧
    (0 < l.length → ∃ g, p = some ⟨g, 0, none⟩ ∧ B ≤ g ∧ g < w.heap.size ∧ ∀ k, w.frozen? ⟨g, k, none⟩ = false) := by
  have h' := h
  obtain ⟨_, ⟨rfl, h0⟩ | ⟨g, cap, cur, rfl, hB, hg, hnc, _⟩⟩ := h
  · exact ⟨none, 0, by rw [h0], by omega, fun hp => by rw [flat_len] at hp; omega, fun hp => by omega⟩
  · have hlt : g < w.heap.size := (Array.getElem?_eq_some_iff.1 hg).1
    refine ⟨_, cap, rfl, hnc, fun hp => ⟨g, 0, rfl, hlt, fun j x hx => ?_⟩, fun hp => ⟨g, rfl, hB, hlt, fun k => World.ownsRow.frozenAt h' k⟩⟩
    have hj : j < (flat l).length := (List.getElem?_eq_some_iff.1 hx).1
    rw [flat_len] at hj
    rw [Nat.zero_add, World.ownsRow.cellAt h' j (by omega)]
    exact hx
theorem Own.below {w w1 : World} {B : Nat} {v : Value} {l : List Cd} (h : Own w B v l) (hb : Below w.heap.size w w1) : Own w1 B v l :=
  World.ownsRow.kept (row := none) h ⟨hb.os, hb.tape, hb.output, hb.size, fun j hj _ => hb.block j hj⟩ (by cases hv : v.ownBlock <;> simp)
theorem Own.alloc {w : World} {B : Nat} {v : Value} {l : List Cd} (h : Own w B v l) (o : Obj) : Own (w.alloc o) B v l := h.below ((Below.refl _ _).alloc (Nat.le_refl _) o)
theorem Own.drew {w : World} {B : Nat} {v : Value} {l : List Cd} (h : Own w B v l) : Own w.drew B v l := h
theorem Own.drewN {w : World} {B : Nat} {v : Value} {l : List Cd} (h : Own w B v l) (k : Nat) : Own (w.drewN k) B v l := h
/-- The same, where just what lies from C on may have turned. -/
theorem Own.under {w w1 : World} {B C : Nat} {v : Value} {l : List Cd} (h : Own w B v l) (hv : ∀ g, v.ownBlock = some g → g < C) (hb : Below C w w1) : Own w1 B v l := by
  obtain ⟨hl, ⟨rfl, h0⟩ | ⟨g, cap, cur, rfl, hB, hg, r⟩⟩ := h
  · exact ⟨hl, .inl ⟨rfl, h0⟩⟩
  · exact ⟨hl, .inr ⟨g, cap, cur, rfl, hB, (hb.block g (hv g rfl)).trans hg, r⟩⟩
theorem Own.lt {w : World} {B : Nat} {v : Value} {l : List Cd} (h : Own w B v l) : ∀ g, v.ownBlock = some g → g < w.heap.size := fun g e => (World.ownsRow.lt h g e).2
theorem Own.base {w : World} {B B' : Nat} {v : Value} {l : List Cd} (h : Own w B v l) (hB : B' ≤ B) : Own w B' v l := by
  obtain ⟨hl, h0 | ⟨g, cap, cur, e, hb, r⟩⟩ := h
  · exact ⟨hl, .inl h0⟩
  · exact ⟨hl, .inr ⟨g, cap, cur, e, Nat.le_trans hB hb, r⟩⟩

theorem Own.stay {w w1 : World} {B a b a' b' : Nat} {v : Value} {l : List Cd} {row : Option Nat} (h : Own w B v l) (hg : w.grownBy w1 row) (h1 : ∀ g, v.ownBlock = some g → a ≤ g ∧ g < b) (h2 : ∀ g, row = some g → a' ≤ g ∧ g < b') (hd : b ≤ a' ∨ b' ≤ a) : Own w1 B v l :=
  World.ownsRow.kept h hg (by
    cases hv : v.ownBlock with
    | none => exact .inl rfl
    | some g => exact .inr (fun e => by have := h1 g hv; have := h2 g e.symm; omega))
theorem Own.rd {w : World} {B n c : Nat} {p : Option Addr} {l : List Cd} (h : Own w B (.slice p n c) l) : Rd w p (flat l) := by
  obtain ⟨p', c', e, _, hr, _⟩ := h.form
  injection e with e1 e2 e3
  rw [e1]; exact hr
theorem Own.span {w : World} {B : Nat} {v : Value} {l : List Cd} (h : Own w B v l) : ∀ g, v.ownBlock = some g → B ≤ g ∧ g < w.heap.size := World.ownsRow.lt h
theorem flat_set : ∀ (l : List Cd) (i : Nat) (x : Cd), i < l.length → ((((flat l).set (i * 4) (.int .i64 x.a)).set (i * 4 + 1) (.int .i64 x.b)).set (i * 4 + 2) (.int .i64 x.c)).set (i * 4 + 3) (.int .i64 x.d) = flat (l.set i x)
  | [], i, x, h => by simp at h
  | y :: r, 0, x, h => rfl
  | y :: r, i + 1, x, h => by
    have ih := flat_set r i x (by simpa using h)
    have e : ∀ (zs : List Value) (j : Nat) (v : Value), (Value.int .i64 y.a :: .int .i64 y.b :: .int .i64 y.c :: .int .i64 y.d :: zs).set ((i + 1) * 4 + j) v = Value.int .i64 y.a :: .int .i64 y.b :: .int .i64 y.c :: .int .i64 y.d :: zs.set (i * 4 + j) v := fun zs j v => by
      rw [show (i + 1) * 4 + j = (i * 4 + j) + 1 + 1 + 1 + 1 by omega]; rfl
    have e0 := fun zs v => e zs 0 v
    simp only [Nat.add_zero] at e0
    show ((((Value.int .i64 y.a :: .int .i64 y.b :: .int .i64 y.c :: .int .i64 y.d :: flat r).set ((i + 1) * 4) _).set _ _).set _ _).set _ _ = Value.int .i64 y.a :: .int .i64 y.b :: .int .i64 y.c :: .int .i64 y.d :: flat (r.set i x)
    rw [e0, e, e, e, ih]
/-- A card is stored into the row, cell by cell. -/
theorem Own.store {w : World} {B g n c : Nat} {l : List Cd} (hn : l.length = n) (h : Own w B (.slice (some ⟨g, 0, none⟩) n c) l) (i : Nat) (hi : i < n) (x : Cd) :
    Own ((((w.setCell ⟨g, i * 4, none⟩ (.int .i64 x.a)).setCell ⟨g, i * 4 + 1, none⟩ (.int .i64 x.b)).setCell ⟨g, i * 4 + 2, none⟩ (.int .i64 x.c)).setCell ⟨g, i * 4 + 3, none⟩ (.int .i64 x.d)) B (.slice (some ⟨g, 0, none⟩) n c) (l.set i x) := by
  subst hn
  unfold Own at h ⊢
  have h1 := (((World.ownsRow.stored (World.ownsRow.stored (World.ownsRow.stored (World.ownsRow.stored h (i * 4) (.int .i64 x.a)).1 (i * 4 + 1) (.int .i64 x.b)).1 (i * 4 + 2) (.int .i64 x.c)).1 (i * 4 + 3) (.int .i64 x.d)).1))
  rw [flat_set l i x hi] at h1
  rw [List.length_set]
  exact h1
/-- The four cells of a card of the row. -/
theorem Own.slots {w : World} {B g n c : Nat} {l : List Cd} (hn : l.length = n) (h : Own w B (.slice (some ⟨g, 0, none⟩) n c) l) (i : Nat) (hi : i < n) :
    ∃ y : Cd, l[i]? = some y ∧ w.cell? ⟨g, i * 4, none⟩ = some (.int .i64 y.a) ∧ w.cell? ⟨g, i * 4 + 1, none⟩ = some (.int .i64 y.b) ∧ w.cell? ⟨g, i * 4 + 2, none⟩ = some (.int .i64 y.c) ∧ w.cell? ⟨g, i * 4 + 3, none⟩ = some (.int .i64 y.d) ∧
      (∀ k, w.frozen? ⟨g, k, none⟩ = false) ∧ B ≤ g ∧ g < w.heap.size := by
  subst hn
  obtain ⟨p, c', e, _, hr, hg⟩ := h.form
  obtain ⟨g', eg, hB, hlt, hf⟩ := hg (by omega)
  obtain ⟨b, o, y, ep, hb, hy, d0, d1, d2, d3⟩ := hr.card hi
  injection e with e1 e2 e3
  rw [← e1] at eg ep
  injection eg with eg
  injection eg with eg
  subst eg
  injection ep with ep
  injection ep with eb eo
  subst eb; subst eo
  simp only [Nat.zero_add] at d0 d1 d2 d3
  exact ⟨y, hy, d0, d1, d2, d3, hf, hB, hlt⟩
theorem flat_rep (n : Nat) : flat (List.replicate n zero) = List.replicate (n * 4) (.int .i64 0) := by
  induction n with
  | zero => rfl
  | succ n ih =>
    rw [List.replicate_succ, show (n + 1) * 4 = n * 4 + 1 + 1 + 1 + 1 by omega]
    show Value.int .i64 0 :: .int .i64 0 :: .int .i64 0 :: .int .i64 0 :: flat (List.replicate n zero) = _
    rw [ih]; rfl
theorem a4info : ((Try.prog).info? 54).map (fun i => (i.zero, i.size, i.bytes)) = some (some (.agg #[.int .i64 0, .int .i64 0, .int .i64 0, .int .i64 0]), 4, 32) := by kernel_rfl
theorem made_zero (n : Nat) : (madeCells (Value.agg #[.int .i64 0, .int .i64 0, .int .i64 0, .int .i64 0]).cells (n * 4)).toList = List.replicate (n * 4) (.int .i64 0) := by
  apply List.ext_getElem?
  intro j
  by_cases hj : j < n * 4
  · have h4 : j % 4 = 0 ∨ j % 4 = 1 ∨ j % 4 = 2 ∨ j % 4 = 3 := by omega
    rw [List.getElem?_replicate, if_pos hj]
    rcases h4 with h | h | h | h <;> simp [madeCells, Value.cells, hj, h]
  · rw [List.getElem?_eq_none (by simpa [madeCells] using hj), List.getElem?_replicate, if_neg hj]
/-- A new row of n cards of zeros. -/
theorem made (n : Nat) (hn : n ≤ 1000000000) (w : World) : (Instr.makeSlice 24 (.int .i64 n) (.int .i64 n)).run Try.prog w = .ok (.slice (some ⟨w.heap.size, 0, none⟩) n n) (w.alloc (.cells (madeCells (Value.agg #[.int .i64 0, .int .i64 0, .int .i64 0, .int .i64 0]).cells (n * 4)) 54)) := by
  obtain ⟨i, hi, hz, hs, hb⟩ := info_parts a4info
  have h := run_make (P := Try.prog) w 24 54 i _ Try.underlying24 hi hz .i64 .i64 n n (by omega) (by omega) (by rw [hb]; omega) (by omega)
  rw [hs] at h
  simpa using h
theorem own_made (w : World) (n : Nat) (hn : n ≤ 1000000000) : Own (w.alloc (.cells (madeCells (Value.agg #[.int .i64 0, .int .i64 0, .int .i64 0, .int .i64 0]).cells (n * 4)) 54)) w.heap.size (.slice (some ⟨w.heap.size, 0, none⟩) n n) (List.replicate n zero) := by
  unfold Own
  rw [List.length_replicate]
  refine ⟨by rw [flat_len, List.length_replicate]; omega, .inr ⟨w.heap.size, n, _, rfl, Nat.le_refl _, heap_alloc_new w _, Nat.le_refl _, by simp only [maxLen]; omega, size_madeCells _ _, ?_⟩⟩
  rw [made_zero, flat_rep, List.take_of_length_le (by simp)]
end Go.Proofs.Ytnibkipepmakgaa.cards
