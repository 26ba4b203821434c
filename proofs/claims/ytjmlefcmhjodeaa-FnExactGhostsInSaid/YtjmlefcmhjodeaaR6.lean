/- Slices of arrays of 6 numbers that a call makes: appends, comparisons, marks, and marks looked for again. -/
import Derived.Test.YtjmlefcmhjodeaaIs
namespace Go.Proofs.Ytjmlefcmhjodeaa.cards
open Go.RowKit
set_option linter.unusedVariables false

/-- An array of 6 numbers. -/
structure A6 where
  a : Int
  b : Int
  c : Int
  d : Int
  e : Int
  f : Int
def A6.cells (x : A6) : List Value := [.int .i64 x.a, .int .i64 x.b, .int .i64 x.c, .int .i64 x.d, .int .i64 x.e, .int .i64 x.f]
abbrev A6.val (x : A6) : Value := .agg #[.int .i64 x.a, .int .i64 x.b, .int .i64 x.c, .int .i64 x.d, .int .i64 x.e, .int .i64 x.f]
abbrev A6.obj (x : A6) : Obj := .cells #[.int .i64 x.a, .int .i64 x.b, .int .i64 x.c, .int .i64 x.d, .int .i64 x.e, .int .i64 x.f] 87
def A6.flat (l : List A6) : List Value := l.flatMap A6.cells
theorem A6.flat_len (l : List A6) : (A6.flat l).length = 6 * l.length := by
  induction l with
  | nil => rfl
  | cons x r ih => simp [A6.flat, List.flatMap_cons, A6.cells] at ih ⊢; omega
theorem A6.flat_at : ∀ (l : List A6) (k : Nat) (x : A6), l[k]? = some x → (A6.flat l)[6 * k]? = some (.int .i64 x.a) ∧ (A6.flat l)[6 * k + 1]? = some (.int .i64 x.b) ∧ (A6.flat l)[6 * k + 2]? = some (.int .i64 x.c) ∧ (A6.flat l)[6 * k + 3]? = some (.int .i64 x.d) ∧ (A6.flat l)[6 * k + 4]? = some (.int .i64 x.e) ∧ (A6.flat l)[6 * k + 5]? = some (.int .i64 x.f)
  | [], k, x, h => by simp at h
  | y :: r, 0, x, h => by
    obtain rfl : y = x := by simpa using h
    exact ⟨rfl, rfl, rfl, rfl, rfl, rfl⟩
  | y :: r, k + 1, x, h => by
    obtain ⟨h0, h1, h2, h3, h4, h5⟩ := A6.flat_at r k x (by simpa using h)
    have e : ∀ j, (A6.flat (y :: r))[6 * (k + 1) + j]? = (A6.flat r)[6 * k + j]? := fun j => by
      show (Value.int .i64 y.a :: .int .i64 y.b :: .int .i64 y.c :: .int .i64 y.d :: .int .i64 y.e :: .int .i64 y.f :: A6.flat r)[6 * (k + 1) + j]? = _
      rw [show 6 * (k + 1) + j = (6 * k + j) + 1 + 1 + 1 + 1 + 1 + 1 by omega]
      simp
    exact ⟨(e 0).trans h0, (e 1).trans h1, (e 2).trans h2, (e 3).trans h3, (e 4).trans h4, (e 5).trans h5⟩
theorem Rd.aA6 {w : World} {p : Option Addr} {l : List A6} (h : Rd w p (A6.flat l)) {k : Nat} (hk : k < l.length) : ∃ b o x, p = some ⟨b, o, none⟩ ∧ b < w.heap.size ∧ l[k]? = some x ∧ w.cell? ⟨b, o + k * 6, none⟩ = some (.int .i64 x.a) ∧ w.cell? ⟨b, o + k * 6 + 1, none⟩ = some (.int .i64 x.b) ∧ w.cell? ⟨b, o + k * 6 + 2, none⟩ = some (.int .i64 x.c) ∧ w.cell? ⟨b, o + k * 6 + 3, none⟩ = some (.int .i64 x.d) ∧ w.cell? ⟨b, o + k * 6 + 4, none⟩ = some (.int .i64 x.e) ∧ w.cell? ⟨b, o + k * 6 + 5, none⟩ = some (.int .i64 x.f) := by
  obtain ⟨b, o, e, hlt, hc⟩ := h (by rw [A6.flat_len]; omega)
  have hx := List.getElem?_eq_getElem hk
  obtain ⟨h0, h1, h2, h3, h4, h5⟩ := A6.flat_at l k _ hx
  refine ⟨b, o, _, e, hlt, hx, ?_, ?_, ?_, ?_, ?_, ?_⟩
  · rw [Nat.mul_comm]; exact hc _ _ h0
  · rw [Nat.mul_comm]; exact hc _ _ h1
  · rw [Nat.mul_comm]; exact hc _ _ h2
  · rw [Nat.mul_comm]; exact hc _ _ h3
  · rw [Nat.mul_comm]; exact hc _ _ h4
  · rw [Nat.mul_comm]; exact hc _ _ h5
/-- The call owns a slice of the arrays of a list, made from block B on. -/
def OwnA6 (w : World) (B : Nat) (v : Value) (l : List A6) : Prop := w.ownsRow B 87 6 v l.length (A6.flat l)
theorem OwnA6.form {w : World} {B : Nat} {v : Value} {l : List A6} (h : OwnA6 w B v l) : ∃ p c, v = .slice p l.length c ∧ l.length ≤ c ∧ Rd w p (A6.flat l) ∧
    (0 < l.length → ∃ g, p = some ⟨g, 0, none⟩ ∧ B ≤ g ∧ g < w.heap.size ∧ ∀ k, w.frozen? ⟨g, k, none⟩ = false) := by
  have h' := h
  obtain ⟨_, ⟨rfl, h0⟩ | ⟨g, cap, cur, rfl, hB, hg, hnc, _⟩⟩ := h
  · exact ⟨none, 0, by rw [h0], by omega, fun hp => by rw [A6.flat_len] at hp; omega, fun hp => by omega⟩
  · have hlt : g < w.heap.size := (Array.getElem?_eq_some_iff.1 hg).1
    refine ⟨_, cap, rfl, hnc, fun hp => ⟨g, 0, rfl, hlt, fun j x hx => ?_⟩, fun hp => ⟨g, rfl, hB, hlt, fun k => World.ownsRow.frozenAt h' k⟩⟩
    have hj : j < (A6.flat l).length := (List.getElem?_eq_some_iff.1 hx).1
    rw [A6.flat_len] at hj
    rw [Nat.zero_add, World.ownsRow.cellAt h' j (by omega)]
    exact hx
theorem OwnA6.below {w w1 : World} {B : Nat} {v : Value} {l : List A6} (h : OwnA6 w B v l) (hb : Below w.heap.size w w1) : OwnA6 w1 B v l :=
  World.ownsRow.kept (row := none) h ⟨hb.os, hb.tape, hb.output, hb.size, fun j hj _ => hb.block j hj⟩ (by cases hv : v.ownBlock <;> simp)
theorem OwnA6.alloc {w : World} {B : Nat} {v : Value} {l : List A6} (h : OwnA6 w B v l) (o : Obj) : OwnA6 (w.alloc o) B v l := h.below ((Below.refl _ _).alloc (Nat.le_refl _) o)
theorem OwnA6.drew {w : World} {B : Nat} {v : Value} {l : List A6} (h : OwnA6 w B v l) : OwnA6 w.drew B v l := h
theorem OwnA6.drewN {w : World} {B : Nat} {v : Value} {l : List A6} (h : OwnA6 w B v l) (k : Nat) : OwnA6 (w.drewN k) B v l := h
theorem OwnA6.stay {w w1 : World} {B a b a' b' : Nat} {v : Value} {l : List A6} {row : Option Nat} (h : OwnA6 w B v l) (hg : w.grownBy w1 row) (h1 : ∀ g, v.ownBlock = some g → a ≤ g ∧ g < b) (h2 : ∀ g, row = some g → a' ≤ g ∧ g < b') (hd : b ≤ a' ∨ b' ≤ a) : OwnA6 w1 B v l :=
  World.ownsRow.kept h hg (by
    cases hv : v.ownBlock with
    | none => exact .inl rfl
    | some g => exact .inr (fun e => by have := h1 g hv; have := h2 g e.symm; omega))
theorem OwnA6.base {w : World} {B B' : Nat} {v : Value} {l : List A6} (h : OwnA6 w B v l) (hB : B' ≤ B) : OwnA6 w B' v l := by
  obtain ⟨hl, h0 | ⟨g, cap, cur, e, hb, r⟩⟩ := h
  · exact ⟨hl, .inl h0⟩
  · exact ⟨hl, .inr ⟨g, cap, cur, e, Nat.le_trans hB hb, r⟩⟩
theorem OwnA6.rd {w : World} {B n c : Nat} {p : Option Addr} {l : List A6} (h : OwnA6 w B (.slice p n c) l) : Rd w p (A6.flat l) := by
  obtain ⟨p', c', e, _, hr, _⟩ := h.form
  injection e with e1 e2 e3
  rw [e1]; exact hr
theorem OwnA6.span {w : World} {B : Nat} {v : Value} {l : List A6} (h : OwnA6 w B v l) : ∀ g, v.ownBlock = some g → B ≤ g ∧ g < w.heap.size := World.ownsRow.lt h
theorem OwnA6.empty (w : World) (B : Nat) (hB : B ≤ w.heap.size) : OwnA6 (w.alloc (.cells #[] 87)) B (.slice (some ⟨w.heap.size, 0, none⟩) 0 0) [] :=
  ⟨rfl, .inr ⟨w.heap.size, 0, #[], rfl, hB, heap_alloc_new w _, Nat.le_refl _, by simp [maxLen], rfl, rfl⟩⟩
theorem A6.flat_set : ∀ (l : List A6) (i : Nat) (x : A6), i < l.length → ((((((A6.flat l).set (i * 6) (.int .i64 x.a)).set (i * 6 + 1) (.int .i64 x.b)).set (i * 6 + 2) (.int .i64 x.c)).set (i * 6 + 3) (.int .i64 x.d)).set (i * 6 + 4) (.int .i64 x.e)).set (i * 6 + 5) (.int .i64 x.f) = A6.flat (l.set i x)
  | [], i, x, h => by simp at h
  | y :: r, 0, x, h => rfl
  | y :: r, i + 1, x, h => by
    have ih := A6.flat_set r i x (by simpa using h)
    have e : ∀ (zs : List Value) (j : Nat) (v : Value), (Value.int .i64 y.a :: .int .i64 y.b :: .int .i64 y.c :: .int .i64 y.d :: .int .i64 y.e :: .int .i64 y.f :: zs).set ((i + 1) * 6 + j) v = Value.int .i64 y.a :: .int .i64 y.b :: .int .i64 y.c :: .int .i64 y.d :: .int .i64 y.e :: .int .i64 y.f :: zs.set (i * 6 + j) v := fun zs j v => by
      rw [show (i + 1) * 6 + j = (i * 6 + j) + 1 + 1 + 1 + 1 + 1 + 1 by omega]; rfl
    have e0 := fun zs v => e zs 0 v
    simp only [Nat.add_zero] at e0
    show ((((((Value.int .i64 y.a :: .int .i64 y.b :: .int .i64 y.c :: .int .i64 y.d :: .int .i64 y.e :: .int .i64 y.f :: A6.flat r).set ((i + 1) * 6) _).set _ _).set _ _).set _ _).set _ _).set _ _ = Value.int .i64 y.a :: .int .i64 y.b :: .int .i64 y.c :: .int .i64 y.d :: .int .i64 y.e :: .int .i64 y.f :: A6.flat (r.set i x)
    rw [e0, e, e, e, e, e, ih]
theorem OwnA6.store {w : World} {B g n c : Nat} {l : List A6} (hn : l.length = n) (h : OwnA6 w B (.slice (some ⟨g, 0, none⟩) n c) l) (i : Nat) (hi : i < n) (x : A6) :
    OwnA6 ((((((w.setCell ⟨g, i * 6, none⟩ (.int .i64 x.a)).setCell ⟨g, i * 6 + 1, none⟩ (.int .i64 x.b)).setCell ⟨g, i * 6 + 2, none⟩ (.int .i64 x.c)).setCell ⟨g, i * 6 + 3, none⟩ (.int .i64 x.d)).setCell ⟨g, i * 6 + 4, none⟩ (.int .i64 x.e)).setCell ⟨g, i * 6 + 5, none⟩ (.int .i64 x.f)) B (.slice (some ⟨g, 0, none⟩) n c) (l.set i x) := by
  subst hn
  unfold OwnA6 at h ⊢
  have h1 := (World.ownsRow.stored (World.ownsRow.stored (World.ownsRow.stored (World.ownsRow.stored (World.ownsRow.stored (World.ownsRow.stored h (i * 6) (.int .i64 x.a)).1 (i * 6 + 1) (.int .i64 x.b)).1 (i * 6 + 2) (.int .i64 x.c)).1 (i * 6 + 3) (.int .i64 x.d)).1 (i * 6 + 4) (.int .i64 x.e)).1 (i * 6 + 5) (.int .i64 x.f)).1
  rw [A6.flat_set l i x hi] at h1
  rw [List.length_set]
  exact h1
theorem OwnA6.slots {w : World} {B g n c : Nat} {l : List A6} (hn : l.length = n) (h : OwnA6 w B (.slice (some ⟨g, 0, none⟩) n c) l) (i : Nat) (hi : i < n) :
    ∃ y : A6, l[i]? = some y ∧ w.cell? ⟨g, i * 6, none⟩ = some (.int .i64 y.a) ∧ w.cell? ⟨g, i * 6 + 1, none⟩ = some (.int .i64 y.b) ∧ w.cell? ⟨g, i * 6 + 2, none⟩ = some (.int .i64 y.c) ∧ w.cell? ⟨g, i * 6 + 3, none⟩ = some (.int .i64 y.d) ∧ w.cell? ⟨g, i * 6 + 4, none⟩ = some (.int .i64 y.e) ∧ w.cell? ⟨g, i * 6 + 5, none⟩ = some (.int .i64 y.f) ∧ (∀ k, w.frozen? ⟨g, k, none⟩ = false) ∧ B ≤ g ∧ g < w.heap.size := by
  subst hn
  obtain ⟨p, c', e, _, hr, hg⟩ := h.form
  obtain ⟨g', eg, hB, hlt, hf⟩ := hg (by omega)
  obtain ⟨b, o, y, ep, hb, hy, d0, d1, d2, d3, d4, d5⟩ := hr.aA6 hi
  injection e with e1 e2 e3
  rw [← e1] at eg ep
  injection eg with eg
  injection eg with eg
  subst eg
  injection ep with ep
  injection ep with eb eo
  subst eb; subst eo
  simp only [Nat.zero_add] at d0 d1 d2 d3 d4 d5
  exact ⟨y, hy, d0, d1, d2, d3, d4, d5, hf, hB, hlt⟩
theorem A6.info : ((Try.prog).info? 87).map (fun i => (i.zero, i.size, i.bytes)) = some (some (.agg #[.int .i64 0, .int .i64 0, .int .i64 0, .int .i64 0, .int .i64 0, .int .i64 0]), 6, 48) := by kernel_rfl
/-- One array is appended. -/
theorem append_A6 {ops : Array Oper} {rest : List Oper} {o : Oper} {a : Act} {Q : Exit → Act → World → Prop} (hgd : o.guard = none) (s x : Operand)
    (ho : o.op = .call { callee := .builtin .append, args := #[s, x], argTypes := #[52, 52] }) (B : Nat) (v : Value) (l : List A6) (q : A6) (W : World) (g : Nat) (hg : W.heap.size = g)
    (hs : a.eval s = v) (hx : a.eval x = .slice (some ⟨g, 0, none⟩) 1 1) (hO : OwnA6 W B v l) (hl : l.length ≤ 1000000000) (hB : B ≤ W.heap.size)
    (h : ∀ v' w', OwnA6 w' B v' (l ++ [q]) → Below B W w' → wpList Try.prog ops Q rest (a.put o.dst v') w') : wpList Try.prog ops Q (o :: rest) a (W.alloc q.obj) := by
  subst hg
  obtain ⟨i, hi, hz, hsz, hb⟩ := info_parts A6.info
  refine wpList_append_own (P := Try.prog) (W.alloc q.obj) hgd s x 52 ho B 87 i (.agg #[.int .i64 0, .int .i64 0, .int .i64 0, .int .i64 0, .int .i64 0, .int .i64 0]) 6 48 Try.underlying52 hi hz hsz hb rfl (by decide) v l.length (A6.flat l) hs (hO.alloc _) ⟨W.heap.size, 0, none⟩ 1 1 q.cells hx rfl ?_ ?_ ?_ ?_ ?_ ?_
  · intro j u hu
    have hj : j < 6 := by have := (List.getElem?_eq_some_iff.1 hu).1; simpa [A6.cells] using this
    have hadd : (⟨W.heap.size, 0, none⟩ : Addr).add j = ⟨W.heap.size, j, none⟩ := by
      unfold Addr.add; split <;> simp_all
    rw [hadd, cell_of_row _ _ j _ _ _ (heap_alloc_new W _)]
    rw [← hu]; simp [A6.cells]
  · intro u hu; simp [A6.cells] at hu; rcases hu with rfl | rfl | rfl | rfl | rfl | rfl <;> rfl
  · simp only [maxLen]; omega
  · omega
  · have : (W.alloc q.obj).heap.size = W.heap.size + 1 := by simp
    omega
  · intro v' w' h1 h2 _
    refine h v' w' ?_ (((Below.refl _ _).alloc hB _).grown h2 (by simp; omega) (fun k hk => (World.ownsRow.lt hO k hk).1))
    unfold OwnA6
    rw [List.length_append]
    have e : A6.flat (l ++ [q]) = A6.flat l ++ q.cells := by simp [A6.flat]
    rw [e]; exact h1

def same_A6 (x y : A6) : Bool := decide (x.a = y.a ∧ x.b = y.b ∧ x.c = y.c ∧ x.d = y.d ∧ x.e = y.e ∧ x.f = y.f)
theorem same_A6_self (x : A6) : same_A6 x x = true := by simp [same_A6]
theorem same_A6_n0 {x y : A6} (h : (x.a != y.a) = true) : false = same_A6 x y := by unfold same_A6; simp at h ⊢; omega
theorem same_A6_n1 {x y : A6} (h : (x.b != y.b) = true) : false = same_A6 x y := by unfold same_A6; simp at h ⊢; omega
theorem same_A6_n2 {x y : A6} (h : (x.c != y.c) = true) : false = same_A6 x y := by unfold same_A6; simp at h ⊢; omega
theorem same_A6_n3 {x y : A6} (h : (x.d != y.d) = true) : false = same_A6 x y := by unfold same_A6; simp at h ⊢; omega
theorem same_A6_n4 {x y : A6} (h : (x.e != y.e) = true) : false = same_A6 x y := by unfold same_A6; simp at h ⊢; omega
theorem same_A6_n5 {x y : A6} (h : (x.f != y.f) = true) : false = same_A6 x y := by unfold same_A6; simp at h ⊢; omega
theorem same_A6_y {x y : A6} (h0 : (x.a != y.a) = false) (h1 : (x.b != y.b) = false) (h2 : (x.c != y.c) = false) (h3 : (x.d != y.d) = false) (h4 : (x.e != y.e) = false) (h5 : (x.f != y.f) = false) : true = same_A6 x y := by unfold same_A6; simp at h0 h1 h2 h3 h4 h5 ⊢; omega
set_option maxRecDepth 100000 in
set_option maxHeartbeats 1000000 in
theorem eq_A6 (x y : A6) (w : World) :
    Calls Try.prog 81 #[x.val, y.val] w fun e w' => e = .returned (.bool (same_A6 x y)) ∧ Below w.heap.size w w' := by
  go_enter Try.func81, Try.ntmps81
  go_wp2
  refine wp_loop_rounds 7 ?_
  repeat (any_goals (rw [rounds_succ]; go_wp2; try (go_quiet (fail); go_wp2)))
  all_goals go_ret
  all_goals refine ⟨ret_bool ?_, by repeat (first | with_reducible exact Below.refl _ _ | with_reducible exact HB.out | with_reducible apply Below.drew | with_reducible apply bdN | with_reducible refine Below.alloc ?_ (by first | exact Nat.le_refl _ | with_reducible exact HB.out.size | omega | (simp; done) | (simp; omega) | (have := HB.out.size; simp at *; omega)) _ | with_reducible refine Below.setCell ?_ (by first | exact Nat.le_refl _ | with_reducible exact HB.out.size | omega | (simp; done) | (simp; omega) | (have := HB.out.size; simp at *; omega)) _)⟩
  all_goals first | exact same_A6_n0 ‹_› | exact same_A6_n1 ‹_› | exact same_A6_n2 ‹_› | exact same_A6_n3 ‹_› | exact same_A6_n4 ‹_› | exact same_A6_n5 ‹_› | exact same_A6_y ‹_› ‹_› ‹_› ‹_› ‹_› ‹_›

set_option maxRecDepth 100000 in
set_option maxHeartbeats 2000000 in
theorem eq_rowsA6 (l : List A6) (p1 p2 : Option Addr) (n c1 c2 : Nat) (w : World) (hn : l.length = n) (hl : n ≤ 1000000000) (hr1 : Rd w p1 (A6.flat l)) (hr2 : Rd w p2 (A6.flat l)) :
    Calls Try.prog 47 #[.slice p1 n c1, .slice p2 n c2] w fun e w' => e = .returned (.bool true) ∧ Below w.heap.size w w' := by
  have HN := Lib.hid hn
  have H1 := Lib.hid hr1
  have H2 := Lib.hid hr2
  clear hn hr1 hr2
  go_enter Try.func47, Try.ntmps47
  go_wp2_with fail
  go_loopw [5] (fun i wr => ∃ k : Nat, k ≤ n ∧ i = .int .i64 k ∧ Hid (Below w.heap.size w wr)) (fun i _ => n - (intOf i).toNat)
  case atStart => exact ⟨0, Nat.zero_le _, rfl, Below.refl _ _⟩
  case round =>
    obtain ⟨k, hk, rfl, HB⟩ := hrel
    by_cases hlt : k < n
    · obtain ⟨b, o, x, rfl, hb, hx, d0, d1, d2, d3, d4, d5⟩ := (H1.out.below HB.out).aA6 (k := k) (by rw [HN.out]; exact hlt)
      obtain ⟨b', o', y, rfl, hb', hy, e0, e1, e2, e3, e4, e5⟩ := (H2.out.below HB.out).aA6 (k := k) (by rw [HN.out]; exact hlt)
      obtain rfl : x = y := by rw [hx] at hy; injection hy
      have hs := same_A6_self x
      have b0 : (0 : Int) ≤ (k : Int) := by omega
      have b1 : (k : Int) < (n : Int) := by omega
      clear hx hy
      go_wp2_with fail
      have qd0 := fun d os => cell_regrown d0 d os
      have qd1 := fun d os => cell_regrown d1 d os
      have qd2 := fun d os => cell_regrown d2 d os
      have qd3 := fun d os => cell_regrown d3 d os
      have qd4 := fun d os => cell_regrown d4 d os
      have qd5 := fun d os => cell_regrown d5 d os
      have qe0 := fun d os => cell_regrown e0 d os
      have qe1 := fun d os => cell_regrown e1 d os
      have qe2 := fun d os => cell_regrown e2 d os
      have qe3 := fun d os => cell_regrown e3 d os
      have qe4 := fun d os => cell_regrown e4 d os
      have qe5 := fun d os => cell_regrown e5 d os
      refine wp_region_quiet_below (by kernel_rfl) (by kernel_rfl) ?_
      repeat (first | go_big_quiet_step ((go_at_call 81; with_reducible exact Calls.regrown_of (eq_A6 _ _ _))) | quiet_step ((go_at_call 81; with_reducible exact Calls.regrown_of (eq_A6 _ _ _))))
      refine wpQuiet_nil ?_
      intro w2 hw2
      have b : Below wr.heap.size wr w2 := by obtain ⟨r, hr⟩ := hw2; rw [hr]; exact below_regrown _ _ _
      clear hw2 qd0 qd1 qd2 qd3 qd4 qd5 qe0 qe1 qe2 qe3 qe4 qe5
      have Sw2 := Lib.hid b.size
      have HB := Lib.hid (chain0 (w := w) (by repeat (first | with_reducible exact Below.refl _ _ | with_reducible exact HB.out | with_reducible apply Below.drew | with_reducible apply bdN | with_reducible refine Below.alloc ?_ (by first | exact Nat.le_refl _ | with_reducible exact HB.out.size | omega | (simp; done) | (simp; omega) | (have := HB.out.size; simp at *; omega)) _ | with_reducible refine Below.setCell ?_ (by first | exact Nat.le_refl _ | with_reducible exact HB.out.size | omega | (simp; done) | (simp; omega) | (have := HB.out.size; simp at *; omega)) _)) b)
      clear b
      clear d0 d1 d2 d3 d4 d5 e0 e1 e2 e3 e4 e5
      go_wp2_with fail
      go_roundw
      case rel => exact ⟨k + 1, by omega, by go_num, HB⟩
      case measure => simp [intOf]; omega
    · obtain rfl : k = n := by omega
      go_wp2_with fail
      go_ret
      exact ⟨rfl, HB.out⟩

def mkA6 (k i : Nat) : A6 := ⟨(k : Int) + 6 * (i : Int), (k : Int) + 6 * (i : Int) + 1, (k : Int) + 6 * (i : Int) + 1 + 1, (k : Int) + 6 * (i : Int) + 1 + 1 + 1, (k : Int) + 6 * (i : Int) + 1 + 1 + 1 + 1, (k : Int) + 6 * (i : Int) + 1 + 1 + 1 + 1 + 1⟩
def mksA6 (k : Nat) (l : List A6) (i : Nat) : List A6 := (List.range i).map (mkA6 k) ++ l.drop i
theorem mksA6_zero (k : Nat) (l : List A6) : mksA6 k l 0 = l := by simp [mksA6]
theorem mksA6_len {k : Nat} {l : List A6} {n i : Nat} (h : l.length = n) (hi : i ≤ n) : (mksA6 k l i).length = n := by simp [mksA6]; omega
theorem mksA6_set {k : Nat} {l : List A6} {n i : Nat} (h : l.length = n) (hi : i < n) : (mksA6 k l i).set i (mkA6 k i) = mksA6 k l (i + 1) := by
  unfold mksA6
  rw [List.set_append_right _ _ (by simp), List.range_succ, List.map_append, List.append_assoc]
  have e : i - ((List.range i).map (mkA6 k)).length = 0 := by simp
  rw [e, List.drop_eq_getElem_cons (by omega)]
  rfl
def markedA6 (k n : Nat) : List A6 := (List.range n).map (mkA6 k)
theorem mksA6_all {k : Nat} {l : List A6} {n : Nat} (h : l.length = n) : mksA6 k l n = markedA6 k n := by simp [mksA6, markedA6, ← h]
theorem markedA6_len (k n : Nat) : (markedA6 k n).length = n := by simp [markedA6]
theorem markedA6_at {k n i : Nat} (h : i < n) : (markedA6 k n)[i]? = some (mkA6 k i) := by simp [markedA6, h]

set_option maxRecDepth 100000 in
set_option maxHeartbeats 4000000 in
theorem mark_rowsA6 (l : List A6) (v : Value) (B k0 n : Nat) (w : World) (hn : l.length = n) (hl : k0 + 6 * n ≤ 1000000000) (hB : B ≤ w.heap.size) (ho : OwnA6 w B v l) :
    Calls Try.prog 48 #[v, .int .i64 k0] w fun e w' => e = .returned (.int .i64 (k0 + 6 * n : Nat)) ∧ OwnA6 w' B v (markedA6 k0 n) ∧ w.grownBy w' v.ownBlock := by
  obtain ⟨p, c, rfl, hc, hr, hp⟩ := ho.form
  rw [hn] at ho hp ⊢
  have HN := Lib.hid hn
  have HP := Lib.hid hp
  have HO := Lib.hid ho
  clear hn hr ho hc hp
  go_enter Try.func48, Try.ntmps48
  go_wp2_with fail
  go_loopw [1, 5, 6] (fun q i _ wr => ∃ k : Nat, k ≤ n ∧ i = .int .i64 k ∧ q = .int .i64 (k0 + 6 * k : Nat) ∧ Hid (OwnA6 wr B (.slice p n c) (mksA6 k0 l k)) ∧ Hid (w.grownBy wr (Value.slice p n c).ownBlock)) (fun _ i _ _ => n - (intOf i).toNat)
  case atStart => exact ⟨0, Nat.zero_le _, rfl, rfl, by rw [mksA6_zero]; exact HO, World.grownBy.refl _ _⟩
  case round =>
    clear HO
    obtain ⟨k, hk, rfl, rfl, HO, HB⟩ := hrel
    by_cases hlt : k < n
    · obtain ⟨g, rfl, _⟩ := HP.out (by omega)
      obtain ⟨y, hy, d0, d1, d2, d3, d4, d5, hf, hg1, hg2⟩ := HO.out.slots (mksA6_len HN.out hk) k hlt
      have b0 : (0 : Int) ≤ (k : Int) := by omega
      have b1 : (k : Int) < (n : Int) := by omega
      have HS := HO.out.store (mksA6_len HN.out hk) k hlt (mkA6 k0 k)
      rw [mksA6_set HN.out hlt] at HS
      have HS := Lib.hid HS
      clear hy HO
      go_wp2_with fail
      refine wp_loop_rounds 7 ?_
      repeat (rw [rounds_succ]; go_wp2_with fail)
      exact ⟨⟨k + 1, by omega, by go_num, by go_num, HS, (grown_set (grown_set (grown_set (grown_set (grown_set (grown_set HB.out _ _) _ _) _ _) _ _) _ _) _ _)⟩, by simp [intOf]; omega⟩
    · obtain rfl : k = n := by omega
      rw [mksA6_all HN.out] at HO
      go_wp2_with fail
      go_ret
      exact ⟨rfl, HO.out, HB.out⟩

set_option maxRecDepth 100000 in
set_option maxHeartbeats 4000000 in
theorem held_rowsA6 (v : Value) (B k0 n : Nat) (w : World) (hl : k0 + 6 * n ≤ 1000000000) (ho : OwnA6 w B v (markedA6 k0 n)) :
    Calls Try.prog 49 #[v, .int .i64 k0] w fun e w' => e = .returned (.int .i64 (k0 + 6 * n : Nat)) ∧ Below w.heap.size w w' := by
  obtain ⟨p, c, rfl, hc, hr, hp⟩ := ho.form
  rw [markedA6_len] at ho hp ⊢
  have HR := Lib.hid hr
  clear hr ho hc hp
  go_enter Try.func49, Try.ntmps49
  go_wp2_with fail
  go_loopw [1, 5, 6] (fun q i _ wr => ∃ k : Nat, k ≤ n ∧ i = .int .i64 k ∧ q = .int .i64 (k0 + 6 * k : Nat) ∧ Hid (Below w.heap.size w wr)) (fun _ i _ _ => n - (intOf i).toNat)
  case atStart => exact ⟨0, Nat.zero_le _, rfl, rfl, Below.refl _ _⟩
  case round =>
    obtain ⟨k, hk, rfl, rfl, HB⟩ := hrel
    by_cases hlt : k < n
    · obtain ⟨b, o, x, rfl, hb, hx, d0, d1, d2, d3, d4, d5⟩ := (HR.out.below HB.out).aA6 (k := k) (by rw [markedA6_len]; exact hlt)
      obtain rfl : mkA6 k0 k = x := by rw [markedA6_at hlt] at hx; injection hx
      simp only [mkA6] at d0 d1 d2 d3 d4 d5
      have b0 : (0 : Int) ≤ (k : Int) := by omega
      have b1 : (k : Int) < (n : Int) := by omega
      clear hx
      go_wp2_with fail
      refine wp_loop_rounds 7 ?_
      repeat (rw [rounds_succ]; go_wp2_with fail)
      exact ⟨⟨k + 1, by omega, by go_num, by go_num, HB⟩, by simp [intOf]; omega⟩
    · obtain rfl : k = n := by omega
      go_wp2_with fail
      go_ret
      exact ⟨rfl, HB.out⟩
end Go.Proofs.Ytjmlefcmhjodeaa.cards
