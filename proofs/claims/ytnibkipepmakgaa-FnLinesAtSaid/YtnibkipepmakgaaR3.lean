/- Slices of arrays of 3 numbers that a call makes: appends, comparisons, marks, and marks looked for again. -/
import Derived.Test.YtnibkipepmakgaaIs
namespace Go.Proofs.Ytnibkipepmakgaa.cards
open Go.RowKit
set_option linter.unusedVariables false

/-- An array of 3 numbers. -/
structure A3 where
  a : Int
  b : Int
  c : Int
def A3.cells (x : A3) : List Value := [.int .i64 x.a, .int .i64 x.b, .int .i64 x.c]
abbrev A3.val (x : A3) : Value := .agg #[.int .i64 x.a, .int .i64 x.b, .int .i64 x.c]
abbrev A3.obj (x : A3) : Obj := .cells #[.int .i64 x.a, .int .i64 x.b, .int .i64 x.c] 46
def A3.flat (l : List A3) : List Value := l.flatMap A3.cells
theorem A3.flat_len (l : List A3) : (A3.flat l).length = 3 * l.length := by
  induction l with
  | nil => rfl
  | cons x r ih => simp [A3.flat, List.flatMap_cons, A3.cells] at ih ⊢; omega
theorem A3.flat_at : ∀ (l : List A3) (k : Nat) (x : A3), l[k]? = some x → (A3.flat l)[3 * k]? = some (.int .i64 x.a) ∧ (A3.flat l)[3 * k + 1]? = some (.int .i64 x.b) ∧ (A3.flat l)[3 * k + 2]? = some (.int .i64 x.c)
  | [], k, x, h => by simp at h
  | y :: r, 0, x, h => by
    obtain rfl : y = x := by simpa using h
    exact ⟨rfl, rfl, rfl⟩
  | y :: r, k + 1, x, h => by
    obtain ⟨h0, h1, h2⟩ := A3.flat_at r k x (by simpa using h)
    have e : ∀ j, (A3.flat (y :: r))[3 * (k + 1) + j]? = (A3.flat r)[3 * k + j]? := fun j => by
      show (Value.int .i64 y.a :: .int .i64 y.b :: .int .i64 y.c :: A3.flat r)[3 * (k + 1) + j]? = _
      rw [show 3 * (k + 1) + j = (3 * k + j) + 1 + 1 + 1 by omega]
      simp
    exact ⟨(e 0).trans h0, (e 1).trans h1, (e 2).trans h2⟩
theorem Rd.aA3 {w : World} {p : Option Addr} {l : List A3} (h : Rd w p (A3.flat l)) {k : Nat} (hk : k < l.length) : ∃ b o x, p = some ⟨b, o, none⟩ ∧ b < w.heap.size ∧ l[k]? = some x ∧ w.cell? ⟨b, o + k * 3, none⟩ = some (.int .i64 x.a) ∧ w.cell? ⟨b, o + k * 3 + 1, none⟩ = some (.int .i64 x.b) ∧ w.cell? ⟨b, o + k * 3 + 2, none⟩ = some (.int .i64 x.c) := by
  obtain ⟨b, o, e, hlt, hc⟩ := h (by rw [A3.flat_len]; omega)
  have hx := List.getElem?_eq_getElem hk
  obtain ⟨h0, h1, h2⟩ := A3.flat_at l k _ hx
  refine ⟨b, o, _, e, hlt, hx, ?_, ?_, ?_⟩
  · rw [Nat.mul_comm]; exact hc _ _ h0
  · rw [Nat.mul_comm]; exact hc _ _ h1
  · rw [Nat.mul_comm]; exact hc _ _ h2
/-- The call owns a slice of the arrays of a list, made from block B on. -/
def OwnA3 (w : World) (B : Nat) (v : Value) (l : List A3) : Prop := w.ownsRow B 46 3 v l.length (A3.flat l)
theorem OwnA3.form {w : World} {B : Nat} {v : Value} {l : List A3} (h : OwnA3 w B v l) : ∃ p c, v = .slice p l.length c ∧ l.length ≤ c ∧ Rd w p (A3.flat l) ∧
    (0 < l.length → ∃ g, p = some ⟨g, 0, none⟩ ∧ B ≤ g ∧ g < w.heap.size ∧ ∀ k, w.frozen? ⟨g, k, none⟩ = false) := by
  have h' := h
  obtain ⟨_, ⟨rfl, h0⟩ | ⟨g, cap, cur, rfl, hB, hg, hnc, _⟩⟩ := h
  · exact ⟨none, 0, by rw [h0], by omega, fun hp => by rw [A3.flat_len] at hp; omega, fun hp => by omega⟩
  · have hlt : g < w.heap.size := (Array.getElem?_eq_some_iff.1 hg).1
    refine ⟨_, cap, rfl, hnc, fun hp => ⟨g, 0, rfl, hlt, fun j x hx => ?_⟩, fun hp => ⟨g, rfl, hB, hlt, fun k => World.ownsRow.frozenAt h' k⟩⟩
    have hj : j < (A3.flat l).length := (List.getElem?_eq_some_iff.1 hx).1
    rw [A3.flat_len] at hj
    rw [Nat.zero_add, World.ownsRow.cellAt h' j (by omega)]
    exact hx
theorem OwnA3.below {w w1 : World} {B : Nat} {v : Value} {l : List A3} (h : OwnA3 w B v l) (hb : Below w.heap.size w w1) : OwnA3 w1 B v l :=
  World.ownsRow.kept (row := none) h ⟨hb.os, hb.tape, hb.output, hb.size, fun j hj _ => hb.block j hj⟩ (by cases hv : v.ownBlock <;> simp)
theorem OwnA3.alloc {w : World} {B : Nat} {v : Value} {l : List A3} (h : OwnA3 w B v l) (o : Obj) : OwnA3 (w.alloc o) B v l := h.below ((Below.refl _ _).alloc (Nat.le_refl _) o)
theorem OwnA3.drew {w : World} {B : Nat} {v : Value} {l : List A3} (h : OwnA3 w B v l) : OwnA3 w.drew B v l := h
theorem OwnA3.drewN {w : World} {B : Nat} {v : Value} {l : List A3} (h : OwnA3 w B v l) (k : Nat) : OwnA3 (w.drewN k) B v l := h
theorem OwnA3.stay {w w1 : World} {B a b a' b' : Nat} {v : Value} {l : List A3} {row : Option Nat} (h : OwnA3 w B v l) (hg : w.grownBy w1 row) (h1 : ∀ g, v.ownBlock = some g → a ≤ g ∧ g < b) (h2 : ∀ g, row = some g → a' ≤ g ∧ g < b') (hd : b ≤ a' ∨ b' ≤ a) : OwnA3 w1 B v l :=
  World.ownsRow.kept h hg (by
    cases hv : v.ownBlock with
    | none => exact .inl rfl
    | some g => exact .inr (fun e => by have := h1 g hv; have := h2 g e.symm; omega))
theorem OwnA3.base {w : World} {B B' : Nat} {v : Value} {l : List A3} (h : OwnA3 w B v l) (hB : B' ≤ B) : OwnA3 w B' v l := by
  obtain ⟨hl, h0 | ⟨g, cap, cur, e, hb, r⟩⟩ := h
  · exact ⟨hl, .inl h0⟩
  · exact ⟨hl, .inr ⟨g, cap, cur, e, Nat.le_trans hB hb, r⟩⟩
theorem OwnA3.rd {w : World} {B n c : Nat} {p : Option Addr} {l : List A3} (h : OwnA3 w B (.slice p n c) l) : Rd w p (A3.flat l) := by
  obtain ⟨p', c', e, _, hr, _⟩ := h.form
  injection e with e1 e2 e3
  rw [e1]; exact hr
theorem OwnA3.span {w : World} {B : Nat} {v : Value} {l : List A3} (h : OwnA3 w B v l) : ∀ g, v.ownBlock = some g → B ≤ g ∧ g < w.heap.size := World.ownsRow.lt h
theorem OwnA3.empty (w : World) (B : Nat) (hB : B ≤ w.heap.size) : OwnA3 (w.alloc (.cells #[] 46)) B (.slice (some ⟨w.heap.size, 0, none⟩) 0 0) [] :=
  ⟨rfl, .inr ⟨w.heap.size, 0, #[], rfl, hB, heap_alloc_new w _, Nat.le_refl _, by simp [maxLen], rfl, rfl⟩⟩
theorem A3.flat_set : ∀ (l : List A3) (i : Nat) (x : A3), i < l.length → (((A3.flat l).set (i * 3) (.int .i64 x.a)).set (i * 3 + 1) (.int .i64 x.b)).set (i * 3 + 2) (.int .i64 x.c) = A3.flat (l.set i x)
  | [], i, x, h => by simp at h
  | y :: r, 0, x, h => rfl
  | y :: r, i + 1, x, h => by
    have ih := A3.flat_set r i x (by simpa using h)
    have e : ∀ (zs : List Value) (j : Nat) (v : Value), (Value.int .i64 y.a :: .int .i64 y.b :: .int .i64 y.c :: zs).set ((i + 1) * 3 + j) v = Value.int .i64 y.a :: .int .i64 y.b :: .int .i64 y.c :: zs.set (i * 3 + j) v := fun zs j v => by
      rw [show (i + 1) * 3 + j = (i * 3 + j) + 1 + 1 + 1 by omega]; rfl
    have e0 := fun zs v => e zs 0 v
    simp only [Nat.add_zero] at e0
    show (((Value.int .i64 y.a :: .int .i64 y.b :: .int .i64 y.c :: A3.flat r).set ((i + 1) * 3) _).set _ _).set _ _ = Value.int .i64 y.a :: .int .i64 y.b :: .int .i64 y.c :: A3.flat (r.set i x)
    rw [e0, e, e, ih]
theorem OwnA3.store {w : World} {B g n c : Nat} {l : List A3} (hn : l.length = n) (h : OwnA3 w B (.slice (some ⟨g, 0, none⟩) n c) l) (i : Nat) (hi : i < n) (x : A3) :
    OwnA3 (((w.setCell ⟨g, i * 3, none⟩ (.int .i64 x.a)).setCell ⟨g, i * 3 + 1, none⟩ (.int .i64 x.b)).setCell ⟨g, i * 3 + 2, none⟩ (.int .i64 x.c)) B (.slice (some ⟨g, 0, none⟩) n c) (l.set i x) := by
  subst hn
  unfold OwnA3 at h ⊢
  have h1 := (World.ownsRow.stored (World.ownsRow.stored (World.ownsRow.stored h (i * 3) (.int .i64 x.a)).1 (i * 3 + 1) (.int .i64 x.b)).1 (i * 3 + 2) (.int .i64 x.c)).1
  rw [A3.flat_set l i x hi] at h1
  rw [List.length_set]
  exact h1
theorem OwnA3.slots {w : World} {B g n c : Nat} {l : List A3} (hn : l.length = n) (h : OwnA3 w B (.slice (some ⟨g, 0, none⟩) n c) l) (i : Nat) (hi : i < n) :
    ∃ y : A3, l[i]? = some y ∧ w.cell? ⟨g, i * 3, none⟩ = some (.int .i64 y.a) ∧ w.cell? ⟨g, i * 3 + 1, none⟩ = some (.int .i64 y.b) ∧ w.cell? ⟨g, i * 3 + 2, none⟩ = some (.int .i64 y.c) ∧ (∀ k, w.frozen? ⟨g, k, none⟩ = false) ∧ B ≤ g ∧ g < w.heap.size := by
  subst hn
  obtain ⟨p, c', e, _, hr, hg⟩ := h.form
  obtain ⟨g', eg, hB, hlt, hf⟩ := hg (by omega)
  obtain ⟨b, o, y, ep, hb, hy, d0, d1, d2⟩ := hr.aA3 hi
  injection e with e1 e2 e3
  rw [← e1] at eg ep
  injection eg with eg
  injection eg with eg
  subst eg
  injection ep with ep
  injection ep with eb eo
  subst eb; subst eo
  simp only [Nat.zero_add] at d0 d1 d2
  exact ⟨y, hy, d0, d1, d2, hf, hB, hlt⟩
theorem A3.info : ((Try.prog).info? 46).map (fun i => (i.zero, i.size, i.bytes)) = some (some (.agg #[.int .i64 0, .int .i64 0, .int .i64 0]), 3, 24) := by kernel_rfl
/-- One array is appended. -/
theorem append_A3 {ops : Array Oper} {rest : List Oper} {o : Oper} {a : Act} {Q : Exit → Act → World → Prop} (hgd : o.guard = none) (s x : Operand)
    (ho : o.op = .call { callee := .builtin .append, args := #[s, x], argTypes := #[27, 27] }) (B : Nat) (v : Value) (l : List A3) (q : A3) (W : World) (g : Nat) (hg : W.heap.size = g)
    (hs : a.eval s = v) (hx : a.eval x = .slice (some ⟨g, 0, none⟩) 1 1) (hO : OwnA3 W B v l) (hl : l.length ≤ 1000000000) (hB : B ≤ W.heap.size)
    (h : ∀ v' w', OwnA3 w' B v' (l ++ [q]) → Below B W w' → wpList Try.prog ops Q rest (a.put o.dst v') w') : wpList Try.prog ops Q (o :: rest) a (W.alloc q.obj) := by
  subst hg
  obtain ⟨i, hi, hz, hsz, hb⟩ := info_parts A3.info
  refine wpList_append_own (P := Try.prog) (W.alloc q.obj) hgd s x 27 ho B 46 i (.agg #[.int .i64 0, .int .i64 0, .int .i64 0]) 3 24 Try.underlying27 hi hz hsz hb rfl (by decide) v l.length (A3.flat l) hs (hO.alloc _) ⟨W.heap.size, 0, none⟩ 1 1 q.cells hx rfl ?_ ?_ ?_ ?_ ?_ ?_
  · intro j u hu
    have hj : j < 3 := by have := (List.getElem?_eq_some_iff.1 hu).1; simpa [A3.cells] using this
    have hadd : (⟨W.heap.size, 0, none⟩ : Addr).add j = ⟨W.heap.size, j, none⟩ := by
      unfold Addr.add; split <;> simp_all
    rw [hadd, cell_of_row _ _ j _ _ _ (heap_alloc_new W _)]
    rw [← hu]; simp [A3.cells]
  · intro u hu; simp [A3.cells] at hu; rcases hu with rfl | rfl | rfl <;> rfl
  · simp only [maxLen]; omega
  · omega
  · have : (W.alloc q.obj).heap.size = W.heap.size + 1 := by simp
    omega
  · intro v' w' h1 h2 _
    refine h v' w' ?_ (((Below.refl _ _).alloc hB _).grown h2 (by simp; omega) (fun k hk => (World.ownsRow.lt hO k hk).1))
    unfold OwnA3
    rw [List.length_append]
    have e : A3.flat (l ++ [q]) = A3.flat l ++ q.cells := by simp [A3.flat]
    rw [e]; exact h1
end Go.Proofs.Ytnibkipepmakgaa.cards
