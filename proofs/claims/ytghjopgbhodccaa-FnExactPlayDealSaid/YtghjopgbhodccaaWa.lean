/- Slices of Deals that a call makes. -/
import Derived.Test.YtghjopgbhodccaaUe
namespace Go.Proofs.Ytghjopgbhodccaa.deal
open Go.RowKit
open cards
set_option linter.unusedVariables false

/-- A Deal as it lies in a row. -/
structure Rw where
  s : Int
  n : Int
  v : Value
def Rw.cells (x : Rw) : List Value := [.int .i64 x.s, .int .i64 x.n, x.v]
def Rw.flat (l : List Rw) : List Value := l.flatMap Rw.cells
theorem Rw.flat_len (l : List Rw) : (Rw.flat l).length = 3 * l.length := by
  induction l with
  | nil => rfl
  | cons x r ih => simp [Rw.flat, List.flatMap_cons, Rw.cells] at ih ⊢; omega
theorem Rw.flat_at : ∀ (l : List Rw) (k : Nat) (x : Rw), l[k]? = some x → (Rw.flat l)[3 * k]? = some (.int .i64 x.s) ∧ (Rw.flat l)[3 * k + 1]? = some (.int .i64 x.n) ∧ (Rw.flat l)[3 * k + 2]? = some x.v
  | [], k, x, h => by simp at h
  | y :: r, 0, x, h => by
    obtain rfl : y = x := by simpa using h
    exact ⟨rfl, rfl, rfl⟩
  | y :: r, k + 1, x, h => by
    obtain ⟨h0, h1, h2⟩ := Rw.flat_at r k x (by simpa using h)
    have e : ∀ j, (Rw.flat (y :: r))[3 * (k + 1) + j]? = (Rw.flat r)[3 * k + j]? := fun j => by
      show (Value.int .i64 y.s :: .int .i64 y.n :: y.v :: Rw.flat r)[3 * (k + 1) + j]? = _
      rw [show 3 * (k + 1) + j = (3 * k + j) + 1 + 1 + 1 by omega]
      simp
    exact ⟨(e 0).trans h0, (e 1).trans h1, (e 2).trans h2⟩
def OwnD (w : World) (B : Nat) (v : Value) (l : List Rw) : Prop := w.ownsRow B 31 3 v l.length (Rw.flat l)
theorem OwnD.below {w w1 : World} {B : Nat} {v : Value} {l : List Rw} (h : OwnD w B v l) (hb : Below w.heap.size w w1) : OwnD w1 B v l :=
  World.ownsRow.kept (row := none) h ⟨hb.os, hb.tape, hb.output, hb.size, fun j hj _ => hb.block j hj⟩ (by cases hv : v.ownBlock <;> simp)
theorem OwnD.alloc {w : World} {B : Nat} {v : Value} {l : List Rw} (h : OwnD w B v l) (o : Obj) : OwnD (w.alloc o) B v l := h.below ((Below.refl _ _).alloc (Nat.le_refl _) o)
theorem OwnD.drew {w : World} {B : Nat} {v : Value} {l : List Rw} (h : OwnD w B v l) : OwnD w.drew B v l := h
theorem OwnD.drewN {w : World} {B : Nat} {v : Value} {l : List Rw} (h : OwnD w B v l) (k : Nat) : OwnD (w.drewN k) B v l := h
theorem OwnD.span {w : World} {B : Nat} {v : Value} {l : List Rw} (h : OwnD w B v l) : ∀ g, v.ownBlock = some g → B ≤ g ∧ g < w.heap.size := World.ownsRow.lt h
theorem OwnD.apart {w : World} {B : Nat} {v : Value} {l : List Rw} (h : OwnD w B v l) {p : Addr} (hp : ∀ g, v.ownBlock = some g → g ≠ p.block) (u : Value) : OwnD (w.setCell p u) B v l := by
  obtain ⟨hl, h0 | ⟨g, cap, cur, e, hb, hg, r⟩⟩ := h
  · exact ⟨hl, .inl h0⟩
  · subst e
    exact ⟨hl, .inr ⟨g, cap, cur, rfl, hb, (Below.heap_setCell w p u g (hp g rfl)).trans hg, r⟩⟩
theorem OwnD.empty (w : World) (B : Nat) (hB : B ≤ w.heap.size) : OwnD (w.alloc (.cells #[] 31)) B (.slice (some ⟨w.heap.size, 0, none⟩) 0 0) [] :=
  ⟨rfl, .inr ⟨w.heap.size, 0, #[], rfl, hB, heap_alloc_new w _, Nat.le_refl _, by simp [maxLen], rfl, rfl⟩⟩
theorem OwnD.form {w : World} {B : Nat} {v : Value} {l : List Rw} (h : OwnD w B v l) : ∃ p c, v = .slice p l.length c ∧
    (0 < l.length → ∃ g, p = some ⟨g, 0, none⟩ ∧ g < w.heap.size ∧ ∀ k x, l[k]? = some x → w.cell? ⟨g, k * 3, none⟩ = some (.int .i64 x.s) ∧ w.cell? ⟨g, k * 3 + 1, none⟩ = some (.int .i64 x.n) ∧ w.cell? ⟨g, k * 3 + 2, none⟩ = some x.v) := by
  have h' := h
  obtain ⟨_, ⟨rfl, h0⟩ | ⟨g, cap, cur, rfl, hB, hg, hnc, _⟩⟩ := h
  · exact ⟨none, 0, by rw [h0], fun hp => by omega⟩
  · have hlt : g < w.heap.size := (Array.getElem?_eq_some_iff.1 hg).1
    refine ⟨_, cap, rfl, fun hp => ⟨g, rfl, hlt, fun k x hx => ?_⟩⟩
    obtain ⟨h0, h1, h2⟩ := Rw.flat_at l k x hx
    have hk := (List.getElem?_eq_some_iff.1 hx).1
    refine ⟨?_, ?_, ?_⟩
    · rw [Nat.mul_comm, World.ownsRow.cellAt h' _ (by omega)]; exact h0
    · rw [Nat.mul_comm, World.ownsRow.cellAt h' _ (by omega)]; exact h1
    · rw [Nat.mul_comm, World.ownsRow.cellAt h' _ (by omega)]; exact h2
theorem Rw.info : ((Try.prog).info? 31).map (fun i => (i.zero, i.size, i.bytes)) = some (some (.agg #[.int .i64 0, .int .i64 0, .slice none 0 0]), 3, 40) := by kernel_rfl
/-- One Deal is appended; it is told where the new slice lies. -/
theorem append_D {ops : Array Oper} {rest : List Oper} {o : Oper} {a : Act} {Q : Exit → Act → World → Prop} (hgd : o.guard = none) (s x : Operand)
    (ho : o.op = .call { callee := .builtin .append, args := #[s, x], argTypes := #[77, 77] }) (B : Nat) (v : Value) (l : List Rw) (q : Rw) (q1 : Option Addr) (qn qc : Nat) (hq : q.v = .slice q1 qn qc) (W : World) (g : Nat) (hg : W.heap.size = g)
    (hs : a.eval s = v) (hx : a.eval x = .slice (some ⟨g, 0, none⟩) 1 1) (hO : OwnD W B v l) (hl : l.length ≤ 1000000) (hB : B ≤ W.heap.size)
    (h : ∀ v' w', OwnD w' B v' (l ++ [q]) → Below B W w' → W.grownBy w' v.ownBlock → (v'.ownBlock = v.ownBlock ∨ v'.ownBlock = some (W.heap.size + 1)) → wpList Try.prog ops Q rest (a.put o.dst v') w') : wpList Try.prog ops Q (o :: rest) a (W.alloc (.cells #[.int .i64 q.s, .int .i64 q.n, q.v] 31)) := by
  subst hg
  obtain ⟨i, hi, hz, hsz, hb⟩ := info_parts Rw.info
  have he : (W.alloc (.cells #[.int .i64 q.s, .int .i64 q.n, q.v] 31)).heap.size = W.heap.size + 1 := by simp
  refine wpList_append_own_at (P := Try.prog) (W.alloc (.cells #[.int .i64 q.s, .int .i64 q.n, q.v] 31)) hgd s x 77 ho B 31 i (.agg #[.int .i64 0, .int .i64 0, .slice none 0 0]) 3 40 Try.underlying77 hi hz hsz hb rfl (by decide) v l.length (Rw.flat l) hs (hO.alloc _) ⟨W.heap.size, 0, none⟩ 1 1 q.cells hx rfl ?_ ?_ ?_ ?_ ?_ ?_
  · intro j u hu
    have hj : j < 3 := by have := (List.getElem?_eq_some_iff.1 hu).1; simpa [Rw.cells] using this
    have hadd : (⟨W.heap.size, 0, none⟩ : Addr).add j = ⟨W.heap.size, j, none⟩ := by
      unfold Addr.add; split <;> simp_all
    rw [hadd, cell_of_row _ _ j _ _ _ (heap_alloc_new W _)]
    rw [← hu]; simp [Rw.cells]
  · intro u hu; simp [Rw.cells] at hu; rcases hu with rfl | rfl | rfl
    · rfl
    · rfl
    · rw [hq]; rfl
  · simp only [maxLen]; omega
  · omega
  · omega
  · intro v' w' h1 h2 _ h4
    refine h v' w' ?_ (((Below.refl _ _).alloc hB _).grown h2 (by omega) (fun k hk => (World.ownsRow.lt hO k hk).1)) ((World.grownBy_alloc W _ _).trans h2) (by rw [he] at h4; exact h4)
    unfold OwnD
    rw [List.length_append]
    have e : Rw.flat (l ++ [q]) = Rw.flat l ++ q.cells := by simp [Rw.flat]
    rw [e]; exact h1
/-- A slice that does not lie in block g. -/
def Off (g : Nat) (v : Value) : Prop := ∀ k, v.ownBlock = some k → k ≠ g
/-- A row is a Deal: its cards lie in a slice of the call's own, neither where the row itself lies nor in block g. -/
def RowOk (w : World) (B g : Nat) (o : Value) (r : Rw) (d : Dl) : Prop := r.s = d.s ∧ r.n = d.nx ∧ (∃ p c, r.v = .slice p d.l.length c) ∧ Own w B r.v d.l ∧ Ap o r.v ∧ Off g r.v
theorem RowOk.below {w w1 : World} {B g : Nat} {o : Value} {r : Rw} {d : Dl} (h : RowOk w B g o r d) (hb : Below w.heap.size w w1) : RowOk w1 B g o r d :=
  ⟨h.1, h.2.1, h.2.2.1, h.2.2.2.1.below hb, h.2.2.2.2.1, h.2.2.2.2.2⟩
theorem RowOk.set {w : World} {B g : Nat} {o : Value} {r : Rw} {d : Dl} (h : RowOk w B g o r d) (k : Nat) (u : Value) : RowOk (w.setCell ⟨g, k, none⟩ u) B g o r d :=
  ⟨h.1, h.2.1, h.2.2.1, Own.apart (p := ⟨g, k, none⟩) h.2.2.2.1 h.2.2.2.2.2 u, h.2.2.2.2.1, h.2.2.2.2.2⟩
theorem RowOk.past {w w1 : World} {B g : Nat} {o o' : Value} {r : Rw} {d : Dl} (h : RowOk w B g o r d) (hg : w.grownBy w1 o.ownBlock) (ha : o'.ownBlock = o.ownBlock ∨ o'.ownBlock = some (w.heap.size + 1)) : RowOk w1 B g o' r d :=
  ⟨h.1, h.2.1, h.2.2.1, h.2.2.2.1.past hg h.2.2.2.2.1, h.2.2.2.2.1.next (fun k hk => Nat.lt_succ_of_lt (h.2.2.2.1.lt k hk)) ha, h.2.2.2.2.2⟩
/-- All rows are the Deals of a game from its beginning on. -/
def RowsOk (w : World) (B g : Nat) (o : Value) (rs : List Rw) (d : Dl) : Prop := ∀ k r, rs[k]? = some r → RowOk w B g o r (stp d k)
theorem RowsOk.snoc {w : World} {B g : Nat} {o : Value} {rs : List Rw} {d : Dl} (h : RowsOk w B g o rs d) {r : Rw} (hr : RowOk w B g o r (stp d rs.length)) : RowsOk w B g o (rs ++ [r]) d := fun k x hx => by
  rcases Nat.lt_or_ge k rs.length with h1 | h1
  · rw [List.getElem?_append_left h1] at hx; exact h k x hx
  · rw [List.getElem?_append_right h1] at hx
    have hk : k - rs.length = 0 := by
      have := (List.getElem?_eq_some_iff.1 hx).1
      simp at this; omega
    rw [hk] at hx
    obtain rfl : r = x := by simpa using hx
    rw [show k = rs.length by omega]; exact hr
end Go.Proofs.Ytghjopgbhodccaa.deal
