/- Blocks that hold a Game; what may turn between two blocks; Games that a call owns. -/
import Derived.Test.YtjanphcfflahkaaQw
import Derived.Test.YtjanphcfflahkaaQt
import Derived.Test.YtjanphcfflahkaaIx
import Derived.Test.YtjanphcfflahkaaAt
import Derived.Test.YtjanphcfflahkaaEa
namespace Go.Proofs.Ytjanphcfflahkaa.game
open Go.RowKit
open cards deal
set_option linter.unusedVariables false

/-- What a block that holds a Game holds. -/
structure Gv where
  t : TypeId
  s : Int
  n : Int
  v : Value
  u : Value
  q : Value
abbrev Gv.obj (x : Gv) : Obj := .cells #[.int .i64 x.s, .int .i64 x.n, x.v, x.u, x.q] x.t
abbrev gval (s n : Int) (v u q : Value) : Value := .agg #[.int .i64 s, .int .i64 n, v, u, q]
def GBox (w : World) (g : Nat) (x : Gv) : Prop := w.heap[g]? = some x.obj
theorem GBox.lt {w : World} {g : Nat} {x : Gv} (h : GBox w g x) : g < w.heap.size := (Array.getElem?_eq_some_iff.1 h).1
theorem GBox.newAt {w : World} {g : Nat} {x : Gv} {o : Obj} (h : w.heap.size = g) (ho : o = x.obj) : GBox (w.alloc o) g x := by subst h; subst ho; exact heap_alloc_new w _
theorem GBox.alloc {w : World} {g : Nat} {x : Gv} (h : GBox w g x) (o : Obj) : GBox (w.alloc o) g x := (Below.heap_alloc w o g h.lt).trans h
theorem GBox.drew {w : World} {g : Nat} {x : Gv} (h : GBox w g x) : GBox w.drew g x := h
theorem GBox.drewN {w : World} {g : Nat} {x : Gv} (h : GBox w g x) (n : Nat) : GBox (w.drewN n) g x := h
theorem GBox.below {w w1 : World} {g : Nat} {x : Gv} (h : GBox w g x) (b : Below w.heap.size w w1) : GBox w1 g x := (b.block g h.lt).trans h
theorem GBox.under {w w1 : World} {g B : Nat} {x : Gv} (h : GBox w g x) (hg : g < B) (b : Below B w w1) : GBox w1 g x := (b.block g hg).trans h
theorem GBox.cell {w : World} {g : Nat} {x : Gv} (h : GBox w g x) : w.cell? ⟨g, 0, none⟩ = some (.int .i64 x.s) ∧ w.cell? ⟨g, 1, none⟩ = some (.int .i64 x.n) ∧ w.cell? ⟨g, 2, none⟩ = some x.v ∧ w.cell? ⟨g, 3, none⟩ = some x.u ∧ w.cell? ⟨g, 4, none⟩ = some x.q := by
  unfold GBox at h
  exact ⟨by rw [cell_of_row w g 0 _ _ _ h]; rfl, by rw [cell_of_row w g 1 _ _ _ h]; rfl, by rw [cell_of_row w g 2 _ _ _ h]; rfl, by rw [cell_of_row w g 3 _ _ _ h]; rfl, by rw [cell_of_row w g 4 _ _ _ h]; rfl⟩
theorem GBox.frozen {w : World} {g : Nat} {x : Gv} (h : GBox w g x) : ∀ i, w.frozen? ⟨g, i, none⟩ = false := fun i => frozen_of_row w g i _ _ h
theorem GBox.farW {w : World} {g g2 : Nat} {x : Gv} (h : GBox w g x) (hp : g ≠ g2) (o : Nat) (u : Value) : GBox (w.setCell ⟨g2, o, none⟩ u) g x := (Below.heap_setCell w ⟨g2, o, none⟩ u g hp).trans h
theorem GBox.set_ {w : World} {g : Nat} {t : TypeId} {s0 n0 : Int} {v0 u0 q0 : Value} (h : GBox w g ⟨t, s0, n0, v0, u0, q0⟩) (s n : Int) (v u q : Value) : GBox (((((w.setCell ⟨g, 0, none⟩ (.int .i64 s)).setCell ⟨g, 1, none⟩ (.int .i64 n)).setCell ⟨g, 2, none⟩ v).setCell ⟨g, 3, none⟩ u).setCell ⟨g, 4, none⟩ q) g ⟨t, s, n, v, u, q⟩ := by
  unfold GBox at h ⊢
  rw [heap_setCell_same _ g 4 _ _ _ (heap_setCell_same _ g 3 _ _ _ (heap_setCell_same _ g 2 _ _ _ (heap_setCell_same _ g 1 _ _ _ (heap_setCell_same w g 0 _ _ _ h))))]
  rfl
theorem GBox.set0 {w : World} {g : Nat} {t : TypeId} {s0 n0 : Int} {v0 u0 q0 : Value} (h : GBox w g ⟨t, s0, n0, v0, u0, q0⟩) (s : Int) : GBox (w.setCell ⟨g, 0, none⟩ (.int .i64 s)) g ⟨t, s, n0, v0, u0, q0⟩ := by
  unfold GBox at h ⊢; rw [heap_setCell_same _ g 0 _ _ _ h]; rfl
theorem GBox.set1 {w : World} {g : Nat} {t : TypeId} {s0 n0 : Int} {v0 u0 q0 : Value} (h : GBox w g ⟨t, s0, n0, v0, u0, q0⟩) (n : Int) : GBox (w.setCell ⟨g, 1, none⟩ (.int .i64 n)) g ⟨t, s0, n, v0, u0, q0⟩ := by
  unfold GBox at h ⊢; rw [heap_setCell_same _ g 1 _ _ _ h]; rfl
theorem GBox.set2 {w : World} {g : Nat} {t : TypeId} {s0 n0 : Int} {v0 u0 q0 : Value} (h : GBox w g ⟨t, s0, n0, v0, u0, q0⟩) (v : Value) : GBox (w.setCell ⟨g, 2, none⟩ v) g ⟨t, s0, n0, v, u0, q0⟩ := by
  unfold GBox at h ⊢; rw [heap_setCell_same _ g 2 _ _ _ h]; rfl
theorem GBox.set3 {w : World} {g : Nat} {t : TypeId} {s0 n0 : Int} {v0 u0 q0 : Value} (h : GBox w g ⟨t, s0, n0, v0, u0, q0⟩) (u : Value) : GBox (w.setCell ⟨g, 3, none⟩ u) g ⟨t, s0, n0, v0, u, q0⟩ := by
  unfold GBox at h ⊢; rw [heap_setCell_same _ g 3 _ _ _ h]; rfl
theorem GBox.set4 {w : World} {g : Nat} {t : TypeId} {s0 n0 : Int} {v0 u0 q0 : Value} (h : GBox w g ⟨t, s0, n0, v0, u0, q0⟩) (q : Value) : GBox (w.setCell ⟨g, 4, none⟩ q) g ⟨t, s0, n0, v0, u0, q⟩ := by
  unfold GBox at h ⊢; rw [heap_setCell_same _ g 4 _ _ _ h]; rfl
theorem load_game {w : World} {g : Nat} {s n : Int} {v u q : Value} (h : GBox w g ⟨51, s, n, v, u, q⟩) : (loadVar 51 ⟨g, 0, none⟩).run Try.prog w = .ok (gval s n v u q) w := by
  obtain ⟨h0, h1, h2, h3, h4⟩ := h.cell
  simp [loadVar, go_sem, h0, h1, h2, h3, h4]
theorem res_game {fn : Func} {i : Tmp} (hf : fn.results = #[.cell i 51]) {tmps : Array Value} {w : World} {g : Nat} {s n : Int} {v u q : Value} (ht : tmps.getD i undef = .pointer (some ⟨g, 0, none⟩)) (h : GBox w g ⟨51, s, n, v, u, q⟩) :
    (results fn tmps).run Try.prog w = .ok (gval s n v u q) w := by
  have hl := load_game h
  rw [Array.getD_eq_getD_getElem?] at ht
  simp only [results, hf]
  simp [Sem.run_bind, ht, asAddr, hl]
theorem res_game2 {fn : Func} {i x : Tmp} (hf : fn.results = #[.cell i 51, .tmp x]) {tmps : Array Value} {w : World} {g : Nat} {s n : Int} {v u q : Value} (ht : tmps.getD i undef = .pointer (some ⟨g, 0, none⟩)) (h : GBox w g ⟨51, s, n, v, u, q⟩) :
    (results fn tmps).run Try.prog w = .ok (.tuple #[gval s n v u q, tmps.getD x undef]) w := by
  have hl := load_game h
  rw [results_cell_tmp hf, ht]
  simp [asAddr, hl, Result.andThen]

/-! All but the blocks from a on, up to b, is as it was. -/
structure Out (a b : Nat) (w w1 : World) : Prop where
  os : w1.os = w.os
  tape : w1.tape = w.tape
  output : w1.output = w.output
  size : w.heap.size ≤ w1.heap.size
  block : ∀ k, k < w.heap.size → k < a ∨ b ≤ k → w1.heap[k]? = w.heap[k]?
theorem Out.refl (a b : Nat) (w : World) : Out a b w w := ⟨rfl, rfl, rfl, Nat.le_refl _, fun _ _ _ => rfl⟩
theorem Out.trans {a b : Nat} {w w1 w2 : World} (h : Out a b w w1) (k : Out a b w1 w2) : Out a b w w2 :=
  ⟨k.os.trans h.os, k.tape.trans h.tape, k.output.trans h.output, Nat.le_trans h.size k.size, fun i hi hk => (k.block i (Nat.lt_of_lt_of_le hi h.size) hk).trans (h.block i hi hk)⟩
theorem Out.grown {a b : Nat} {w w1 : World} {row : Option Nat} (h : w.grownBy w1 row) (hr : ∀ g, row = some g → a ≤ g ∧ g < b) : Out a b w w1 :=
  ⟨h.os, h.tape, h.output, h.size, fun k hk ho => h.block k hk (fun e => by have := hr k e.symm; omega)⟩
theorem Out.of_below {a b : Nat} {w w1 : World} (h : Below w.heap.size w w1) : Out a b w w1 := ⟨h.os, h.tape, h.output, h.size, fun k hk _ => h.block k hk⟩
theorem Below.out {B a b : Nat} {w0 w w1 : World} (h : Below B w0 w) (o : Out a b w w1) (hB : B ≤ w.heap.size) (hr : B ≤ a) : Below B w0 w1 :=
  h.trans ⟨o.os, o.tape, o.output, o.size, fun k hk => o.block k (by omega) (.inl (by omega))⟩
theorem GBox.out {a b : Nat} {w w1 : World} {g : Nat} {x : Gv} (h : GBox w g x) (o : Out a b w w1) (hg : g < a ∨ b ≤ g) : GBox w1 g x := (o.block g h.lt hg).trans h
theorem Box.out {a b : Nat} {w w1 : World} {g : Nat} {x : Cd} (h : Box w g x) (o : Out a b w w1) (hg : g < a ∨ b ≤ g) : Box w1 g x := (o.block g h.lt hg).trans h
theorem ownsRow_out {a b : Nat} {w w1 : World} {B : Nat} {T : TypeId} {k : Nat} {v : Value} {n : Nat} {xs : List Value} (h : w.ownsRow B T k v n xs) (o : Out a b w w1) (hv : ∀ g, v.ownBlock = some g → g < a ∨ b ≤ g) : w1.ownsRow B T k v n xs := by
  obtain ⟨hl, h0 | ⟨g, cap, cur, e, hB, hg, r⟩⟩ := h
  · exact ⟨hl, .inl h0⟩
  · subst e
    exact ⟨hl, .inr ⟨g, cap, cur, rfl, hB, (o.block g (Array.getElem?_eq_some_iff.1 hg).1 (hv g rfl)).trans hg, r⟩⟩
theorem Own.out {a b : Nat} {w w1 : World} {B : Nat} {v : Value} {l : List Cd} (h : Own w B v l) (o : Out a b w w1) (hv : ∀ g, v.ownBlock = some g → g < a ∨ b ≤ g) : Own w1 B v l := ownsRow_out h o hv
theorem OwnI.out {a b : Nat} {w w1 : World} {B : Nat} {v : Value} {l : List Int} (h : OwnI w B v l) (o : Out a b w w1) (hv : ∀ g, v.ownBlock = some g → g < a ∨ b ≤ g) : OwnI w1 B v l := ownsRow_out h o hv
theorem OwnI.base {w : World} {B B' : Nat} {v : Value} {l : List Int} (h : OwnI w B v l) (hB : B' ≤ B) : OwnI w B' v l := by
  obtain ⟨hl, h0 | ⟨g, cap, cur, e, hb, r⟩⟩ := h
  · exact ⟨hl, .inl h0⟩
  · exact ⟨hl, .inr ⟨g, cap, cur, e, Nat.le_trans hB hb, r⟩⟩
theorem OwnI.farB {w : World} {B : Nat} {v : Value} {l : List Int} (h : OwnI w B v l) {p : Addr} (hp : p.block < B) (u : Value) : OwnI (w.setCell p u) B v l := by
  obtain ⟨hl, h0 | ⟨g, cap, cur, e, hb, hg, r⟩⟩ := h
  · exact ⟨hl, .inl h0⟩
  · exact ⟨hl, .inr ⟨g, cap, cur, e, hb, (Below.heap_setCell w p u g (by omega)).trans hg, r⟩⟩
theorem OwnI.nil0 {w : World} {B n c : Nat} {p : Option Addr} {l : List Int} (h : OwnI w B (.slice p n c) l) : p = none → c = 0 := fun e => by
  subst e
  obtain ⟨_, ⟨e, _⟩ | ⟨g, cap, cur, e, _⟩⟩ := h
  · injection e
  · injection e with e1 e2 e3; cases e1

/-! Three slices that read as those of a Game. -/
structure RdG (w : World) (p ps pw : Option Addr) (l : List Cd) (sc wr : List Int) : Prop where
  a : Rd w p (flat l)
  b : Rd w ps (ints sc)
  c : Rd w pw (ints wr)
theorem RdG.below {w w1 : World} {p ps pw : Option Addr} {l : List Cd} {sc wr : List Int} (h : RdG w p ps pw l sc wr) (hb : Below w.heap.size w w1) : RdG w1 p ps pw l sc wr := ⟨Rd.below h.a hb, Rd.below h.b hb, Rd.below h.c hb⟩
theorem RdG.drew {w : World} {p ps pw : Option Addr} {l : List Cd} {sc wr : List Int} (h : RdG w p ps pw l sc wr) : RdG w.drew p ps pw l sc wr := h.below ((Below.refl _ _).drew)
theorem RdG.drewN {w : World} {p ps pw : Option Addr} {l : List Cd} {sc wr : List Int} (h : RdG w p ps pw l sc wr) (k : Nat) : RdG (w.drewN k) p ps pw l sc wr := h.below (bdN (Below.refl _ _) k)
theorem RdG.alloc {w : World} {p ps pw : Option Addr} {l : List Cd} {sc wr : List Int} (h : RdG w p ps pw l sc wr) (o : Obj) : RdG (w.alloc o) p ps pw l sc wr := h.below ((Below.refl _ _).alloc (Nat.le_refl _) o)
/-- The sizes of the slices of a Game, and how they may be used. -/
structure FitG (n c ns cs nw cw : Nat) (p ps pw : Option Addr) (g : Gm) : Prop where
  hn : g.l.length = n
  hs : g.sc.length = ns
  hw : g.wr.length = nw
  hc : n ≤ c
  hcs : ns ≤ cs
  hcw : nw ≤ cw
  z : p = none → c = 0
  zs : ps = none → cs = 0
  zw : pw = none → cw = 0
  wf : ∀ x ∈ g.l, wfc x
  n1 : n ≤ 2000000
  s1 : ns ≤ 2000000
  w1 : nw ≤ 2000000
/-- The call owns a Game, made from block B on, up to C. -/
structure OwnG (w : World) (B C : Nat) (vl vs vw : Value) (l : List Cd) (sc wr : List Int) : Prop where
  o1 : Own w B vl l
  o2 : OwnI w B vs sc
  o3 : OwnI w B vw wr
  a12 : Ap vl vs
  a13 : Ap vl vw
  a23 : Ap vs vw
  c1 : ∀ g, vl.ownBlock = some g → g < C
  c2 : ∀ g, vs.ownBlock = some g → g < C
  c3 : ∀ g, vw.ownBlock = some g → g < C
section
variable {w w1 : World} {B C : Nat} {vl vs vw : Value} {l : List Cd} {sc wr : List Int}
theorem OwnG.below (h : OwnG w B C vl vs vw l sc wr) (b : Below w.heap.size w w1) : OwnG w1 B C vl vs vw l sc wr := ⟨h.o1.below b, h.o2.below b, h.o3.below b, h.a12, h.a13, h.a23, h.c1, h.c2, h.c3⟩
theorem OwnG.alloc (h : OwnG w B C vl vs vw l sc wr) (o : Obj) : OwnG (w.alloc o) B C vl vs vw l sc wr := h.below ((Below.refl _ _).alloc (Nat.le_refl _) o)
theorem OwnG.drew (h : OwnG w B C vl vs vw l sc wr) : OwnG w.drew B C vl vs vw l sc wr := h.below ((Below.refl _ _).drew)
theorem OwnG.drewN (h : OwnG w B C vl vs vw l sc wr) (k : Nat) : OwnG (w.drewN k) B C vl vs vw l sc wr := h.below (bdN (Below.refl _ _) k)
theorem OwnG.out {a b : Nat} (h : OwnG w B C vl vs vw l sc wr) (o : Out a b w w1) (hd : C ≤ a ∨ b ≤ B) : OwnG w1 B C vl vs vw l sc wr :=
  ⟨Own.out h.o1 o (fun g e => by have := h.c1 g e; have := (h.o1.span g e).1; omega), OwnI.out h.o2 o (fun g e => by have := h.c2 g e; have := (h.o2.span g e).1; omega), OwnI.out h.o3 o (fun g e => by have := h.c3 g e; have := (h.o3.span g e).1; omega), h.a12, h.a13, h.a23, h.c1, h.c2, h.c3⟩
theorem OwnG.far (h : OwnG w B C vl vs vw l sc wr) {g : Nat} (hg : g < B ∨ C ≤ g) (o : Nat) (u : Value) : OwnG (w.setCell ⟨g, o, none⟩ u) B C vl vs vw l sc wr :=
  h.out (a := g) (b := g + 1) (Out.grown (row := some g) ⟨rfl, rfl, rfl, by simp [World.setCell], fun k hk hne => Below.heap_setCell _ _ _ _ (fun e => hne (by rw [e]))⟩ (fun q e => by injection e with e; omega)) (by omega)
theorem OwnG.base {B' : Nat} (h : OwnG w B C vl vs vw l sc wr) (hB : B' ≤ B) : OwnG w B' C vl vs vw l sc wr := ⟨h.o1.base hB, OwnI.base h.o2 hB, OwnI.base h.o3 hB, h.a12, h.a13, h.a23, h.c1, h.c2, h.c3⟩
theorem OwnG.top {C' : Nat} (h : OwnG w B C vl vs vw l sc wr) (hC : C ≤ C') : OwnG w B C' vl vs vw l sc wr := ⟨h.o1, h.o2, h.o3, h.a12, h.a13, h.a23, fun g e => Nat.lt_of_lt_of_le (h.c1 g e) hC, fun g e => Nat.lt_of_lt_of_le (h.c2 g e) hC, fun g e => Nat.lt_of_lt_of_le (h.c3 g e) hC⟩
theorem OwnG.form (h : OwnG w B C vl vs vw l sc wr) : ∃ p c ps cs pw cw, vl = .slice p l.length c ∧ vs = .slice ps sc.length cs ∧ vw = .slice pw wr.length cw ∧ RdG w p ps pw l sc wr ∧ l.length ≤ c ∧ sc.length ≤ cs ∧ wr.length ≤ cw ∧ (p = none → c = 0) ∧ (ps = none → cs = 0) ∧ (pw = none → cw = 0) := by
  obtain ⟨o1, o2, o3, _, _, _, _, _, _⟩ := h
  obtain ⟨p, c, rfl, h1, r1, _⟩ := o1.form
  obtain ⟨ps, cs, rfl, h2, r2, _⟩ := o2.form
  obtain ⟨pw, cw, rfl, h3, r3, _⟩ := o3.form
  exact ⟨p, c, ps, cs, pw, cw, rfl, rfl, rfl, ⟨r1, r2, r3⟩, h1, h2, h3, Own.nil0 o1, OwnI.nil0 o2, OwnI.nil0 o3⟩
theorem OwnG.rd {p ps pw : Option Addr} {n c ns cs nw cw : Nat} (h : OwnG w B C (.slice p n c) (.slice ps ns cs) (.slice pw nw cw) l sc wr) : RdG w p ps pw l sc wr := ⟨h.o1.rd, h.o2.rd, h.o3.rd⟩
end
theorem OwnG.empty (w : World) (B : Nat) : OwnG w B B (.slice none 0 0) (.slice none 0 0) (.slice none 0 0) [] [] [] :=
  ⟨Own.none_ _ _, OwnI.none_ _ _, OwnI.none_ _ _, (fun g e _ => by cases e), (fun g e _ => by cases e), (fun g e _ => by cases e), (fun g e => by cases e), (fun g e => by cases e), (fun g e => by cases e)⟩
/-- Three slices made one behind the other. -/
theorem OwnG.chain {w w1 w2 w3 : World} {B : Nat} {vl vs vw : Value} {l : List Cd} {sc wr : List Int} (h1 : Own w1 B vl l) (b2 : Below w1.heap.size w1 w2) (h2 : OwnI w2 w1.heap.size vs sc) (b3 : Below w2.heap.size w2 w3) (h3 : OwnI w3 w2.heap.size vw wr) (hB : B ≤ w1.heap.size) : OwnG w3 B w3.heap.size vl vs vw l sc wr := by
  have s2 := b2.size
  have s3 := b3.size
  exact ⟨(h1.below b2).below b3, OwnI.base (h2.below b3) hB, OwnI.base h3 (by omega), fun g e1 e2 => by have := (h1.span g e1).2; have := (h2.span g e2).1; omega, fun g e1 e2 => by have := (h1.span g e1).2; have := (h3.span g e2).1; omega, fun g e1 e2 => by have := (h2.span g e1).2; have := (h3.span g e2).1; omega,
    fun g e => by have := (h1.span g e).2; omega, fun g e => by have := (h2.span g e).2; omega, fun g e => by have := (h3.span g e).2; omega⟩
end Go.Proofs.Ytjanphcfflahkaa.game
