/- Slices of arrays of 3 numbers that a call makes: appends, comparisons, marks, and marks looked for again. -/
import Derived.Test.YtfnifkffhfhfmabIs
namespace Go.Proofs.Ytfnifkffhfhfmab.cards
open Go.RowKit
set_option linter.unusedVariables false

/-- An array of 3 numbers. -/
structure A3 where
  a : Int
  b : Int
  c : Int
def A3.cells (x : A3) : List Value := [.int .i64 x.a, .int .i64 x.b, .int .i64 x.c]
abbrev A3.val (x : A3) : Value := .agg #[.int .i64 x.a, .int .i64 x.b, .int .i64 x.c]
abbrev A3.obj (x : A3) : Obj := .cells #[.int .i64 x.a, .int .i64 x.b, .int .i64 x.c] 59
def A3.flat (l : List A3) : List Value := l.flatMap A3.cells
theorem A3.flat_len (l : List A3) : (A3.flat l).length = 3 * l.length := by
  induction l with
  | nil => rfl
  | cons x r ih => simp [A3.flat, List.flatMap_cons, A3.cells] at ih ⊢; omega
theorem A3.flat_at : ∀ (l : List A3) (k : Nat) (x : A3), l[k]? = some x → (A3.flat l)[3 * k]? = some (.int .i64 x.a) ∧ (A3.flat l)[3 * k + 1]? = some (.int .i64 x.b) ∧ (A3.flat l)[3 * k + 2]? = some (.int .i64 x.c)
  | [], k, x, h => by simp at h
  | y :: r, 0, x, h => by
    obtain rfl : y = x := by simpa using h
    exact ⟨rfl, rfl, rfl⟩
  | y :: r, k + 1, x, h => by
    obtain ⟨h0, h1, h2⟩ := A3.flat_at r k x (by simpa using h)
    have e : ∀ j, (A3.flat (y :: r))[3 * (k + 1) + j]? = (A3.flat r)[3 * k + j]? := fun j => by
      show (Value.int .i64 y.a :: .int .i64 y.b :: .int .i64 y.c :: A3.flat r)[3 * (k + 1) + j]? = _
      rw [show 3 * (k + 1) + j = (3 * k + j) + 1 + 1 + 1 by omega]
      simp
    exact ⟨(e 0).trans h0, (e 1).trans h1, (e 2).trans h2⟩
theorem Rd.aA3 {w : World} {p : Option Addr} {l : List A3} (h : Rd w p (A3.flat l)) {k : Nat} (hk : k < l.length) : ∃ b o x, p = some ⟨b, o, none⟩ ∧ b < w.heap.size ∧ l[k]? = some x ∧ w.cell? ⟨b, o + k * 3, none⟩ = some (.int .i64 x.a) ∧ w.cell? ⟨b, o + k * 3 + 1, none⟩ = some (.int .i64 x.b) ∧ w.cell? ⟨b, o + k * 3 + 2, none⟩ = some (.int .i64 x.c) := by
  obtain ⟨b, o, e, hlt, hc⟩ := h (by rw [A3.flat_len]; omega)
  have hx := List.getElem?_eq_getElem hk
  obtain ⟨h0, h1, h2⟩ := A3.flat_at l k _ hx
  refine ⟨b, o, _, e, hlt, hx, ?_, ?_, ?_⟩
  · rw [Nat.mul_comm]; exact hc _ _ h0
  · rw [Nat.mul_comm]; exact hc _ _ h1
  · rw [Nat.mul_comm]; exact hc _ _ h2
/-- The call owns a slice of the arrays of a list, made from block B on. -/
def OwnA3 (w : World) (B : Nat) (v : Value) (l : List A3) : Prop := w.ownsRow B 59 3 v l.length (A3.flat l)
theorem OwnA3.form {w : World} {B : Nat} {v : Value} {l : List A3} (h : OwnA3 w B v l) : ∃ p c, v = .slice p l.length c ∧ l.length ≤ c ∧ Rd w p (A3.flat l) ∧
    (0 < l.length → ∃ g, p = some ⟨g, 0, none⟩ ∧ B ≤ g ∧ g < w.heap.size ∧ ∀ k, w.frozen? ⟨g, k, none⟩ = false) := by
  have h' := h
  obtain ⟨_, ⟨rfl, h0⟩ | ⟨g, cap, cur, rfl, hB, hg, hnc, _⟩⟩ := h
  · exact ⟨none, 0, by rw [h0], by omega, fun hp => by rw [A3.flat_len] at hp; omega, fun hp => by omega⟩
  · have hlt : g < w.heap.size := (Array.getElem?_eq_some_iff.1 hg).1
    refine ⟨_, cap, rfl, hnc, fun hp => ⟨g, 0, rfl, hlt, fun j x hx => ?_⟩, fun hp => ⟨g, rfl, hB, hlt, fun k => World.ownsRow.frozenAt h' k⟩⟩
    have hj : j < (A3.flat l).length := (List.getElem?_eq_some_iff.1 hx).1
    rw [A3.flat_len] at hj
    rw [Nat.zero_add, World.ownsRow.cellAt h' j (by omega)]
    exact hx
theorem OwnA3.below {w w1 : World} {B : Nat} {v : Value} {l : List A3} (h : OwnA3 w B v l) (hb : Below w.heap.size w w1) : OwnA3 w1 B v l :=
  World.ownsRow.kept (row := none) h ⟨hb.os, hb.tape, hb.output, hb.size, fun j hj _ => hb.block j hj⟩ (by cases hv : v.ownBlock <;> simp)
theorem OwnA3.alloc {w : World} {B : Nat} {v : Value} {l : List A3} (h : OwnA3 w B v l) (o : Obj) : OwnA3 (w.alloc o) B v l := h.below ((Below.refl _ _).alloc (Nat.le_refl _) o)
theorem OwnA3.drew {w : World} {B : Nat} {v : Value} {l : List A3} (h : OwnA3 w B v l) : OwnA3 w.drew B v l := h
theorem OwnA3.drewN {w : World} {B : Nat} {v : Value} {l : List A3} (h : OwnA3 w B v l) (k : Nat) : OwnA3 (w.drewN k) B v l := h
theorem OwnA3.stay {w w1 : World} {B a b a' b' : Nat} {v : Value} {l : List A3} {row : Option Nat} (h : OwnA3 w B v l) (hg : w.grownBy w1 row) (h1 : ∀ g, v.ownBlock = some g → a ≤ g ∧ g < b) (h2 : ∀ g, row = some g → a' ≤ g ∧ g < b') (hd : b ≤ a' ∨ b' ≤ a) : OwnA3 w1 B v l :=
  World.ownsRow.kept h hg (by
    cases hv : v.ownBlock with
    | none => exact .inl rfl
    | some g => exact .inr (fun e => by have := h1 g hv; have := h2 g e.symm; omega))
theorem OwnA3.base {w : World} {B B' : Nat} {v : Value} {l : List A3} (h : OwnA3 w B v l) (hB : B' ≤ B) : OwnA3 w B' v l := by
  obtain ⟨hl, h0 | ⟨g, cap, cur, e, hb, r⟩⟩ := h
  · exact ⟨hl, .inl h0⟩
  · exact ⟨hl, .inr ⟨g, cap, cur, e, Nat.le_trans hB hb, r⟩⟩
theorem OwnA3.rd {w : World} {B n c : Nat} {p : Option Addr} {l : List A3} (h : OwnA3 w B (.slice p n c) l) : Rd w p (A3.flat l) := by
  obtain ⟨p', c', e, _, hr, _⟩ := h.form
  injection e with e1 e2 e3
  rw [e1]; exact hr
theorem OwnA3.span {w : World} {B : Nat} {v : Value} {l : List A3} (h : OwnA3 w B v l) : ∀ g, v.ownBlock = some g → B ≤ g ∧ g < w.heap.size := World.ownsRow.lt h
theorem OwnA3.empty (w : World) (B : Nat) (hB : B ≤ w.heap.size) : OwnA3 (w.alloc (.cells #[] 59)) B (.slice (some ⟨w.heap.size, 0, none⟩) 0 0) [] :=
  ⟨rfl, .inr ⟨w.heap.size, 0, #[], rfl, hB, heap_alloc_new w _, Nat.le_refl _, by simp [maxLen], rfl, rfl⟩⟩
theorem A3.flat_set : ∀ (l : List A3) (i : Nat) (x : A3), i < l.length → (((A3.flat l).set (i * 3) (.int .i64 x.a)).set (i * 3 + 1) (.int .i64 x.b)).set (i * 3 + 2) (.int .i64 x.c) = A3.flat (l.set i x)
  | [], i, x, h => by simp at h
  | y :: r, 0, x, h => rfl
  | y :: r, i + 1, x, h => by
    have ih := A3.flat_set r i x (by simpa using h)
    have e : ∀ (zs : List Value) (j : Nat) (v : Value), (Value.int .i64 y.a :: .int .i64 y.b :: .int .i64 y.c :: zs).set ((i + 1) * 3 + j) v = Value.int .i64 y.a :: .int .i64 y.b :: .int .i64 y.c :: zs.set (i * 3 + j) v := fun zs j v => by
      rw [show (i + 1) * 3 + j = (i * 3 + j) + 1 + 1 + 1 by omega]; rfl
    have e0 := fun zs v => e zs 0 v
    simp only [Nat.add_zero] at e0
    show (((Value.int .i64 y.a :: .int .i64 y.b :: .int .i64 y.c :: A3.flat r).set ((i + 1) * 3) _).set _ _).set _ _ = Value.int .i64 y.a :: .int .i64 y.b :: .int .i64 y.c :: A3.flat (r.set i x)
    rw [e0, e, e, ih]
theorem OwnA3.store {w : World} {B g n c : Nat} {l : List A3} (hn : l.length = n) (h : OwnA3 w B (.slice (some ⟨g, 0, none⟩) n c) l) (i : Nat) (hi : i < n) (x : A3) :
    OwnA3 (((w.setCell ⟨g, i * 3, none⟩ (.int .i64 x.a)).setCell ⟨g, i * 3 + 1, none⟩ (.int .i64 x.b)).setCell ⟨g, i * 3 + 2, none⟩ (.int .i64 x.c)) B (.slice (some ⟨g, 0, none⟩) n c) (l.set i x) := by
  subst hn
  unfold OwnA3 at h ⊢
  have h1 := (World.ownsRow.stored (World.ownsRow.stored (World.ownsRow.stored h (i * 3) (.int .i64 x.a)).1 (i * 3 + 1) (.int .i64 x.b)).1 (i * 3 + 2) (.int .i64 x.c)).1
  rw [A3.flat_set l i x hi] at h1
  rw [List.length_set]
  exact h1
theorem OwnA3.slots {w : World} {B g n c : Nat} {l : List A3} (hn : l.length = n) (h : OwnA3 w B (.slice (some ⟨g, 0, none⟩) n c) l) (i : Nat) (hi : i < n) :
    ∃ y : A3, l[i]? = some y ∧ w.cell? ⟨g, i * 3, none⟩ = some (.int .i64 y.a) ∧ w.cell? ⟨g, i * 3 + 1, none⟩ = some (.int .i64 y.b) ∧ w.cell? ⟨g, i * 3 + 2, none⟩ = some (.int .i64 y.c) ∧ (∀ k, w.frozen? ⟨g, k, none⟩ = false) ∧ B ≤ g ∧ g < w.heap.size := by
  subst hn
  obtain ⟨p, c', e, _, hr, hg⟩ := h.form
  obtain ⟨g', eg, hB, hlt, hf⟩ := hg (by omega)
  obtain ⟨b, o, y, ep, hb, hy, d0, d1, d2⟩ := hr.aA3 hi
  injection e with e1 e2 e3
  rw [← e1] at eg ep
  injection eg with eg
  injection eg with eg
  subst eg
  injection ep with ep
  injection ep with eb eo
  subst eb; subst eo
  simp only [Nat.zero_add] at d0 d1 d2
  exact ⟨y, hy, d0, d1, d2, hf, hB, hlt⟩
theorem A3.info : ((Try.prog).info? 59).map (fun i => (i.zero, i.size, i.bytes)) = some (some (.agg #[.int .i64 0, .int .i64 0, .int .i64 0]), 3, 24) := by kernel_rfl
/-- One array is appended. -/
theorem append_A3 {ops : Array Oper} {rest : List Oper} {o : Oper} {a : Act} {Q : Exit → Act → World → Prop} (hgd : o.guard = none) (s x : Operand)
    (ho : o.op = .call { callee := .builtin .append, args := #[s, x], argTypes := #[27, 27] }) (B : Nat) (v : Value) (l : List A3) (q : A3) (W : World) (g : Nat) (hg : W.heap.size = g)
    (hs : a.eval s = v) (hx : a.eval x = .slice (some ⟨g, 0, none⟩) 1 1) (hO : OwnA3 W B v l) (hl : l.length ≤ 1000000000) (hB : B ≤ W.heap.size)
    (h : ∀ v' w', OwnA3 w' B v' (l ++ [q]) → Below B W w' → wpList Try.prog ops Q rest (a.put o.dst v') w') : wpList Try.prog ops Q (o :: rest) a (W.alloc q.obj) := by
  subst hg
  obtain ⟨i, hi, hz, hsz, hb⟩ := info_parts A3.info
  refine wpList_append_own (P := Try.prog) (W.alloc q.obj) hgd s x 27 ho B 59 i (.agg #[.int .i64 0, .int .i64 0, .int .i64 0]) 3 24 Try.underlying27 hi hz hsz hb rfl (by decide) v l.length (A3.flat l) hs (hO.alloc _) ⟨W.heap.size, 0, none⟩ 1 1 q.cells hx rfl ?_ ?_ ?_ ?_ ?_ ?_
  · intro j u hu
    have hj : j < 3 := by have := (List.getElem?_eq_some_iff.1 hu).1; simpa [A3.cells] using this
    have hadd : (⟨W.heap.size, 0, none⟩ : Addr).add j = ⟨W.heap.size, j, none⟩ := by
      unfold Addr.add; split <;> simp_all
    rw [hadd, cell_of_row _ _ j _ _ _ (heap_alloc_new W _)]
    rw [← hu]; simp [A3.cells]
  · intro u hu; simp [A3.cells] at hu; rcases hu with rfl | rfl | rfl <;> rfl
  · simp only [maxLen]; omega
  · omega
  · have : (W.alloc q.obj).heap.size = W.heap.size + 1 := by simp
    omega
  · intro v' w' h1 h2 _
    refine h v' w' ?_ (((Below.refl _ _).alloc hB _).grown h2 (by simp; omega) (fun k hk => (World.ownsRow.lt hO k hk).1))
    unfold OwnA3
    rw [List.length_append]
    have e : A3.flat (l ++ [q]) = A3.flat l ++ q.cells := by simp [A3.flat]
    rw [e]; exact h1

def same_A3 (x y : A3) : Bool := decide (x.a = y.a ∧ x.b = y.b ∧ x.c = y.c)
theorem same_A3_self (x : A3) : same_A3 x x = true := by simp [same_A3]
theorem same_A3_n0 {x y : A3} (h : (x.a != y.a) = true) : false = same_A3 x y := by unfold same_A3; simp at h ⊢; omega
theorem same_A3_n1 {x y : A3} (h : (x.b != y.b) = true) : false = same_A3 x y := by unfold same_A3; simp at h ⊢; omega
theorem same_A3_n2 {x y : A3} (h : (x.c != y.c) = true) : false = same_A3 x y := by unfold same_A3; simp at h ⊢; omega
theorem same_A3_y {x y : A3} (h0 : (x.a != y.a) = false) (h1 : (x.b != y.b) = false) (h2 : (x.c != y.c) = false) : true = same_A3 x y := by unfold same_A3; simp at h0 h1 h2 ⊢; omega
set_option maxRecDepth 100000 in
set_option maxHeartbeats 1000000 in
theorem eq_A3 (x y : A3) (w : World) :
    Calls Try.prog 55 #[x.val, y.val] w fun e w' => e = .returned (.bool (same_A3 x y)) ∧ Below w.heap.size w w' := by
  go_enter Try.func55, Try.ntmps55
  go_wp2
  refine wp_loop_rounds 4 ?_
  repeat (any_goals (rw [rounds_succ]; go_wp2; try (go_quiet (fail); go_wp2)))
  all_goals go_ret
  all_goals refine ⟨ret_bool ?_, by repeat (first | with_reducible exact Below.refl _ _ | with_reducible exact HB.out | with_reducible apply Below.drew | with_reducible apply bdN | with_reducible refine Below.alloc ?_ (by first | exact Nat.le_refl _ | (simp; done) | (simp; omega) | (have := HB.out.size; simp at *; omega)) _ | with_reducible refine Below.setCell ?_ (by first | exact Nat.le_refl _ | (simp; done) | (simp; omega) | (have := HB.out.size; simp at *; omega)) _)⟩
  all_goals first | exact same_A3_n0 ‹_› | exact same_A3_n1 ‹_› | exact same_A3_n2 ‹_› | exact same_A3_y ‹_› ‹_› ‹_›

set_option maxRecDepth 100000 in
set_option maxHeartbeats 2000000 in
theorem eq_rowsA3 (l : List A3) (p1 p2 : Option Addr) (n c1 c2 : Nat) (w : World) (hn : l.length = n) (hl : n ≤ 1000000000) (hr1 : Rd w p1 (A3.flat l)) (hr2 : Rd w p2 (A3.flat l)) :
    Calls Try.prog 21 #[.slice p1 n c1, .slice p2 n c2] w fun e w' => e = .returned (.bool true) ∧ Below w.heap.size w w' := by
  have HN := Lib.hid hn
  have H1 := Lib.hid hr1
  have H2 := Lib.hid hr2
  clear hn hr1 hr2
  go_enter Try.func21, Try.ntmps21
  go_wp2_with fail
  go_loopw [5] (fun i wr => ∃ k : Nat, k ≤ n ∧ i = .int .i64 k ∧ Hid (Below w.heap.size w wr)) (fun i _ => n - (intOf i).toNat)
  case atStart => exact ⟨0, Nat.zero_le _, rfl, Below.refl _ _⟩
  case round =>
    obtain ⟨k, hk, rfl, HB⟩ := hrel
    by_cases hlt : k < n
    · obtain ⟨b, o, x, rfl, hb, hx, d0, d1, d2⟩ := (H1.out.below HB.out).aA3 (k := k) (by rw [HN.out]; exact hlt)
      obtain ⟨b', o', y, rfl, hb', hy, e0, e1, e2⟩ := (H2.out.below HB.out).aA3 (k := k) (by rw [HN.out]; exact hlt)
      obtain rfl : x = y := by rw [hx] at hy; injection hy
      have hs := same_A3_self x
      have b0 : (0 : Int) ≤ (k : Int) := by omega
      have b1 : (k : Int) < (n : Int) := by omega
      clear hx hy
      go_wp2_with fail
      have qd0 := fun d os => cell_regrown d0 d os
      have qd1 := fun d os => cell_regrown d1 d os
      have qd2 := fun d os => cell_regrown d2 d os
      have qe0 := fun d os => cell_regrown e0 d os
      have qe1 := fun d os => cell_regrown e1 d os
      have qe2 := fun d os => cell_regrown e2 d os
      refine wp_region_quiet_below (by kernel_rfl) (by kernel_rfl) ?_
      repeat (first | go_big_quiet_step ((go_at_call 55; with_reducible exact Calls.regrown_of (eq_A3 _ _ _))) | quiet_step ((go_at_call 55; with_reducible exact Calls.regrown_of (eq_A3 _ _ _))))
      refine wpQuiet_nil ?_
      intro w2 hw2
      have b : Below wr.heap.size wr w2 := by obtain ⟨r, hr⟩ := hw2; rw [hr]; exact below_regrown _ _ _
      clear hw2 qd0 qd1 qd2 qe0 qe1 qe2
      have Sw2 := Lib.hid b.size
      have HB := Lib.hid (chain0 (w := w) (by repeat (first | with_reducible exact Below.refl _ _ | with_reducible exact HB.out | with_reducible apply Below.drew | with_reducible apply bdN | with_reducible refine Below.alloc ?_ (by first | exact Nat.le_refl _ | (simp; done) | (simp; omega) | (have := HB.out.size; simp at *; omega)) _ | with_reducible refine Below.setCell ?_ (by first | exact Nat.le_refl _ | (simp; done) | (simp; omega) | (have := HB.out.size; simp at *; omega)) _)) b)
      clear b
      clear d0 d1 d2 e0 e1 e2
      go_wp2_with fail
      go_roundw
      case rel => exact ⟨k + 1, by omega, by go_num, HB⟩
      case measure => simp [intOf]; omega
    · obtain rfl : k = n := by omega
      go_wp2_with fail
      go_ret
      exact ⟨rfl, HB.out⟩

def mkA3 (k i : Nat) : A3 := ⟨(k : Int) + 3 * (i : Int), (k : Int) + 3 * (i : Int) + 1, (k : Int) + 3 * (i : Int) + 1 + 1⟩
def mksA3 (k : Nat) (l : List A3) (i : Nat) : List A3 := (List.range i).map (mkA3 k) ++ l.drop i
theorem mksA3_zero (k : Nat) (l : List A3) : mksA3 k l 0 = l := by simp [mksA3]
theorem mksA3_len {k : Nat} {l : List A3} {n i : Nat} (h : l.length = n) (hi : i ≤ n) : (mksA3 k l i).length = n := by simp [mksA3]; omega
theorem mksA3_set {k : Nat} {l : List A3} {n i : Nat} (h : l.length = n) (hi : i < n) : (mksA3 k l i).set i (mkA3 k i) = mksA3 k l (i + 1) := by
  unfold mksA3
  rw [List.set_append_right _ _ (by simp), List.range_succ, List.map_append, List.append_assoc]
  have e : i - ((List.range i).map (mkA3 k)).length = 0 := by simp
  rw [e, List.drop_eq_getElem_cons (by omega)]
  rfl
def markedA3 (k n : Nat) : List A3 := (List.range n).map (mkA3 k)
theorem mksA3_all {k : Nat} {l : List A3} {n : Nat} (h : l.length = n) : mksA3 k l n = markedA3 k n := by simp [mksA3, markedA3, ← h]
theorem markedA3_len (k n : Nat) : (markedA3 k n).length = n := by simp [markedA3]
theorem markedA3_at {k n i : Nat} (h : i < n) : (markedA3 k n)[i]? = some (mkA3 k i) := by simp [markedA3, h]

set_option maxRecDepth 100000 in
set_option maxHeartbeats 4000000 in
theorem mark_rowsA3 (l : List A3) (v : Value) (B k0 n : Nat) (w : World) (hn : l.length = n) (hl : k0 + 3 * n ≤ 1000000000) (hB : B ≤ w.heap.size) (ho : OwnA3 w B v l) :
    Calls Try.prog 23 #[v, .int .i64 k0] w fun e w' => e = .returned (.int .i64 (k0 + 3 * n : Nat)) ∧ OwnA3 w' B v (markedA3 k0 n) ∧ w.grownBy w' v.ownBlock := by
  obtain ⟨p, c, rfl, hc, hr, hp⟩ := ho.form
  rw [hn] at ho hp ⊢
  have HN := Lib.hid hn
  have HP := Lib.hid hp
  have HO := Lib.hid ho
  clear hn hr ho hc hp
  go_enter Try.func23, Try.ntmps23
  go_wp2_with fail
  go_loopw [1, 5, 6] (fun q i _ wr => ∃ k : Nat, k ≤ n ∧ i = .int .i64 k ∧ q = .int .i64 (k0 + 3 * k : Nat) ∧ Hid (OwnA3 wr B (.slice p n c) (mksA3 k0 l k)) ∧ Hid (w.grownBy wr (Value.slice p n c).ownBlock)) (fun _ i _ _ => n - (intOf i).toNat)
  case atStart => exact ⟨0, Nat.zero_le _, rfl, rfl, by rw [mksA3_zero]; exact HO, World.grownBy.refl _ _⟩
  case round =>
    clear HO
    obtain ⟨k, hk, rfl, rfl, HO, HB⟩ := hrel
    by_cases hlt : k < n
    · obtain ⟨g, rfl, _⟩ := HP.out (by omega)
      obtain ⟨y, hy, d0, d1, d2, hf, hg1, hg2⟩ := HO.out.slots (mksA3_len HN.out hk) k hlt
      have b0 : (0 : Int) ≤ (k : Int) := by omega
      have b1 : (k : Int) < (n : Int) := by omega
      have HS := HO.out.store (mksA3_len HN.out hk) k hlt (mkA3 k0 k)
      rw [mksA3_set HN.out hlt] at HS
      have HS := Lib.hid HS
      clear hy HO
      go_wp2_with fail
      refine wp_loop_rounds 4 ?_
      repeat (rw [rounds_succ]; go_wp2_with fail)
      exact ⟨⟨k + 1, by omega, by go_num, by go_num, HS, (grown_set (grown_set (grown_set HB.out _ _) _ _) _ _)⟩, by simp [intOf]; omega⟩
    · obtain rfl : k = n := by omega
      rw [mksA3_all HN.out] at HO
      go_wp2_with fail
      go_ret
      exact ⟨rfl, HO.out, HB.out⟩

set_option maxRecDepth 100000 in
set_option maxHeartbeats 4000000 in
theorem held_rowsA3 (v : Value) (B k0 n : Nat) (w : World) (hl : k0 + 3 * n ≤ 1000000000) (ho : OwnA3 w B v (markedA3 k0 n)) :
    Calls Try.prog 24 #[v, .int .i64 k0] w fun e w' => e = .returned (.int .i64 (k0 + 3 * n : Nat)) ∧ Below w.heap.size w w' := by
  obtain ⟨p, c, rfl, hc, hr, hp⟩ := ho.form
  rw [markedA3_len] at ho hp ⊢
  have HR := Lib.hid hr
  clear hr ho hc hp
  go_enter Try.func24, Try.ntmps24
  go_wp2_with fail
  go_loopw [1, 5, 6] (fun q i _ wr => ∃ k : Nat, k ≤ n ∧ i = .int .i64 k ∧ q = .int .i64 (k0 + 3 * k : Nat) ∧ Hid (Below w.heap.size w wr)) (fun _ i _ _ => n - (intOf i).toNat)
  case atStart => exact ⟨0, Nat.zero_le _, rfl, rfl, Below.refl _ _⟩
  case round =>
    obtain ⟨k, hk, rfl, rfl, HB⟩ := hrel
    by_cases hlt : k < n
    · obtain ⟨b, o, x, rfl, hb, hx, d0, d1, d2⟩ := (HR.out.below HB.out).aA3 (k := k) (by rw [markedA3_len]; exact hlt)
      obtain rfl : mkA3 k0 k = x := by rw [markedA3_at hlt] at hx; injection hx
      simp only [mkA3] at d0 d1 d2
      have b0 : (0 : Int) ≤ (k : Int) := by omega
      have b1 : (k : Int) < (n : Int) := by omega
      clear hx
      go_wp2_with fail
      refine wp_loop_rounds 4 ?_
      repeat (rw [rounds_succ]; go_wp2_with fail)
      exact ⟨⟨k + 1, by omega, by go_num, by go_num, HB⟩, by simp [intOf]; omega⟩
    · obtain rfl : k = n := by omega
      go_wp2_with fail
      go_ret
      exact ⟨rfl, HB.out⟩
end Go.Proofs.Ytfnifkffhfhfmab.cards
