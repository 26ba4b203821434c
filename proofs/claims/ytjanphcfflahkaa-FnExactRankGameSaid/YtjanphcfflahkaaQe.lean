/- Seeds, and blocks that hold a Deal. -/
import Derived.Test.YtjanphcfflahkaaQb
import Derived.Test.YtjanphcfflahkaaQc
import Derived.Laws.ResultCell
namespace Go.Proofs.Ytjanphcfflahkaa.deal
open Go.RowKit
open cards
set_option linter.unusedVariables false

/-- What a block that holds a Deal holds. -/
structure Dv where
  t : TypeId
  s : Int
  n : Int
  v : Value
abbrev Dv.obj (x : Dv) : Obj := .cells #[.int .i64 x.s, .int .i64 x.n, x.v] x.t
abbrev dval (s n : Int) (v : Value) : Value := .agg #[.int .i64 s, .int .i64 n, v]
def DBox (w : World) (g : Nat) (x : Dv) : Prop := w.heap[g]? = some x.obj
theorem DBox.lt {w : World} {g : Nat} {x : Dv} (h : DBox w g x) : g < w.heap.size := by
  rcases Nat.lt_or_ge g w.heap.size with h1 | h1
  · exact h1
  · unfold DBox at h; rw [Array.getElem?_eq_none h1] at h; cases h
theorem DBox.new (w : World) (x : Dv) : DBox (w.alloc x.obj) w.heap.size x := heap_alloc_new w _
theorem DBox.newAt {w : World} {g : Nat} {x : Dv} {o : Obj} (h : w.heap.size = g) (ho : o = x.obj) : DBox (w.alloc o) g x := by subst h; subst ho; exact DBox.new w x
theorem DBox.alloc {w : World} {g : Nat} {x : Dv} (h : DBox w g x) (o : Obj) : DBox (w.alloc o) g x := (Below.heap_alloc w o g h.lt).trans h
theorem DBox.drew {w : World} {g : Nat} {x : Dv} (h : DBox w g x) : DBox w.drew g x := h
theorem DBox.drewN {w : World} {g : Nat} {x : Dv} (h : DBox w g x) (n : Nat) : DBox (w.drewN n) g x := h
theorem DBox.below {w w1 : World} {g : Nat} {x : Dv} (h : DBox w g x) (b : Below w.heap.size w w1) : DBox w1 g x := (b.block g h.lt).trans h
theorem DBox.cell {w : World} {g : Nat} {x : Dv} (h : DBox w g x) : w.cell? ⟨g, 0, none⟩ = some (.int .i64 x.s) ∧ w.cell? ⟨g, 1, none⟩ = some (.int .i64 x.n) ∧ w.cell? ⟨g, 2, none⟩ = some x.v ∧ True := by
  unfold DBox at h
  exact ⟨by rw [cell_of_row w g 0 _ _ _ h]; rfl, by rw [cell_of_row w g 1 _ _ _ h]; rfl, by rw [cell_of_row w g 2 _ _ _ h]; rfl, trivial⟩
theorem DBox.frozen {w : World} {g : Nat} {x : Dv} (h : DBox w g x) : ∀ i, w.frozen? ⟨g, i, none⟩ = false := fun i => frozen_of_row w g i _ _ h
theorem DBox.marked {w w1 : World} {g : Nat} {x : Dv} {row : Option Nat} (h : DBox w g x) (hg : w.grownBy w1 row) (h2 : ∀ k, row = some k → g < k) : DBox w1 g x :=
  (hg.block g h.lt (fun e => Nat.lt_irrefl _ (h2 g e.symm))).trans h
theorem DBox.set_ {w : World} {g : Nat} {t : TypeId} {s0 n0 : Int} {v0 : Value} (h : DBox w g ⟨t, s0, n0, v0⟩) (s n : Int) (v : Value) : DBox (((w.setCell ⟨g, 0, none⟩ (.int .i64 s)).setCell ⟨g, 1, none⟩ (.int .i64 n)).setCell ⟨g, 2, none⟩ v) g ⟨t, s, n, v⟩ := by
  unfold DBox at h ⊢
  rw [heap_setCell_same _ g 2 _ _ _ (heap_setCell_same _ g 1 _ _ _ (heap_setCell_same w g 0 _ _ _ h))]
  rfl
theorem DBox.under {w w1 : World} {g B : Nat} {x : Dv} (h : DBox w g x) (hg : g < B) (b : Below B w w1) : DBox w1 g x := (b.block g hg).trans h
theorem DBox.farW {w : World} {g g2 : Nat} {x : Dv} (h : DBox w g x) (hp : g ≠ g2) (o : Nat) (u : Value) : DBox (w.setCell ⟨g2, o, none⟩ u) g x := (Below.heap_setCell w ⟨g2, o, none⟩ u g hp).trans h
/-- What a function returns whose result is a Deal that lies in a block. -/
theorem load_deal {w : World} {g : Nat} {s n : Int} {v : Value} (h : DBox w g ⟨49, s, n, v⟩) : (loadVar 49 ⟨g, 0, none⟩).run Try.prog w = .ok (dval s n v) w := by
  obtain ⟨h0, h1, h2, _⟩ := h.cell
  simp [loadVar, go_sem, h0, h1, h2]
theorem res_deal {fn : Func} {i : Tmp} (hf : fn.results = #[.cell i 49]) {tmps : Array Value} {w : World} {g : Nat} {s n : Int} {v : Value} (ht : tmps.getD i undef = .pointer (some ⟨g, 0, none⟩)) (h : DBox w g ⟨49, s, n, v⟩) :
    (results fn tmps).run Try.prog w = .ok (dval s n v) w := by
  have hl := load_deal h
  rw [Array.getD_eq_getD_getElem?] at ht
  simp only [results, hf]
  simp [Sem.run_bind, ht, asAddr, hl]
theorem res_deal2 {fn : Func} {i u : Tmp} (hf : fn.results = #[.cell i 49, .tmp u]) {tmps : Array Value} {w : World} {g : Nat} {s n : Int} {v : Value} (ht : tmps.getD i undef = .pointer (some ⟨g, 0, none⟩)) (h : DBox w g ⟨49, s, n, v⟩) :
    (results fn tmps).run Try.prog w = .ok (.tuple #[dval s n v, tmps.getD u undef]) w := by
  have hl := load_deal h
  rw [results_cell_tmp hf, ht]
  simp [asAddr, hl, Result.andThen]
/-- A store below the block from which on the call owns. -/
theorem Own.far {w : World} {B : Nat} {v : Value} {l : List Cd} (h : Own w B v l) {p : Addr} (hp : p.block < B) (u : Value) : Own (w.setCell p u) B v l := by
  obtain ⟨hl, h0 | ⟨g, cap, cur, e, hb, hg, r⟩⟩ := h
  · exact ⟨hl, .inl h0⟩
  · exact ⟨hl, .inr ⟨g, cap, cur, e, hb, (Below.heap_setCell w p u g (by omega)).trans hg, r⟩⟩
theorem isSd_iff {s : Int} : isSd s = true ↔ 0 ≤ s ∧ s ≤ 65535 := by unfold isSd; exact decide_eq_true_iff

set_option maxHeartbeats 400000 in
theorem is_seed (s : Int) (w : World) :
    Calls Try.prog 132 #[.int .i64 s] w fun e w' => e = .returned (.bool (isSd s)) ∧ Below w.heap.size w w' := by
  go_enter Try.func132, Try.ntmps132
  go_wp2
  all_goals go_ret
  all_goals exact ⟨ret_bool (by unfold isSd; simp; omega), by repeat (first | with_reducible exact Below.refl _ _ | with_reducible exact HB.out | with_reducible apply Below.drew | with_reducible apply bdN | with_reducible refine Below.alloc ?_ (by first | exact Nat.le_refl _ | with_reducible exact HB.out.size | omega | (simp; done) | (simp; omega) | (have := HB.out.size; simp at *; omega)) _ | with_reducible refine Below.setCell ?_ (by first | exact Nat.le_refl _ | with_reducible exact HB.out.size | omega | (simp; done) | (simp; omega) | (have := HB.out.size; simp at *; omega)) _)⟩
set_option maxHeartbeats 400000 in
theorem l4_seed (s : Int) (w : World) :
    Calls Try.prog 127 #[.int .i64 s] w fun e w' => e = .returned (.bool (isSd s)) ∧ Below w.heap.size w w' := by
  go_enter Try.func127, Try.ntmps127
  go_wp2
  all_goals go_ret
  all_goals exact ⟨ret_bool (by unfold isSd; simp; omega), by repeat (first | with_reducible exact Below.refl _ _ | with_reducible exact HB.out | with_reducible apply Below.drew | with_reducible apply bdN | with_reducible refine Below.alloc ?_ (by first | exact Nat.le_refl _ | with_reducible exact HB.out.size | omega | (simp; done) | (simp; omega) | (have := HB.out.size; simp at *; omega)) _ | with_reducible refine Below.setCell ?_ (by first | exact Nat.le_refl _ | with_reducible exact HB.out.size | omega | (simp; done) | (simp; omega) | (have := HB.out.size; simp at *; omega)) _)⟩
set_option maxHeartbeats 400000 in
theorem l1_in (s a b : Int) (w : World) :
    Calls Try.prog 93 #[.int .i64 s, .int .i64 a, .int .i64 b] w fun e w' => e = .returned (.bool (decide (a ≤ s ∧ s ≤ b))) ∧ Below w.heap.size w w' := by
  go_enter Try.func93, Try.ntmps93
  go_wp2
  all_goals go_ret
  all_goals exact ⟨ret_bool (by simp; omega), by repeat (first | with_reducible exact Below.refl _ _ | with_reducible exact HB.out | with_reducible apply Below.drew | with_reducible apply bdN | with_reducible refine Below.alloc ?_ (by first | exact Nat.le_refl _ | with_reducible exact HB.out.size | omega | (simp; done) | (simp; omega) | (have := HB.out.size; simp at *; omega)) _ | with_reducible refine Below.setCell ?_ (by first | exact Nat.le_refl _ | with_reducible exact HB.out.size | omega | (simp; done) | (simp; omega) | (have := HB.out.size; simp at *; omega)) _)⟩
set_option maxHeartbeats 400000 in
theorem seed_behind (s : Int) (w : World) (h : 0 ≤ s ∧ s ≤ 65535) :
    Calls Try.prog 156 #[.int .i64 s] w fun e w' => e = .returned (.int .i64 (behind s)) ∧ Below w.heap.size w w' := by
  obtain ⟨h0, h1⟩ := h
  go_enter Try.func156, Try.ntmps156
  go_wp2
  go_ret
  exact ⟨ret_int (by unfold behind; omega), by repeat (first | with_reducible exact Below.refl _ _ | with_reducible exact HB.out | with_reducible apply Below.drew | with_reducible apply bdN | with_reducible refine Below.alloc ?_ (by first | exact Nat.le_refl _ | with_reducible exact HB.out.size | omega | (simp; done) | (simp; omega) | (have := HB.out.size; simp at *; omega)) _ | with_reducible refine Below.setCell ?_ (by first | exact Nat.le_refl _ | with_reducible exact HB.out.size | omega | (simp; done) | (simp; omega) | (have := HB.out.size; simp at *; omega)) _)⟩
set_option maxHeartbeats 400000 in
theorem l4_behind (s : Int) (w : World) (h : 0 ≤ s ∧ s ≤ 65535) :
    Calls Try.prog 153 #[.int .i64 s] w fun e w' => e = .returned (.int .i64 (behind s)) ∧ Below w.heap.size w w' := by
  obtain ⟨h0, h1⟩ := h
  go_enter Try.func153, Try.ntmps153
  go_wp2
  go_ret
  exact ⟨ret_int (by unfold behind; omega), by repeat (first | with_reducible exact Below.refl _ _ | with_reducible exact HB.out | with_reducible apply Below.drew | with_reducible apply bdN | with_reducible refine Below.alloc ?_ (by first | exact Nat.le_refl _ | with_reducible exact HB.out.size | omega | (simp; done) | (simp; omega) | (have := HB.out.size; simp at *; omega)) _ | with_reducible refine Below.setCell ?_ (by first | exact Nat.le_refl _ | with_reducible exact HB.out.size | omega | (simp; done) | (simp; omega) | (have := HB.out.size; simp at *; omega)) _)⟩
def nsR (s : Int) : Int × Bool := if isSd s = true then (behind s, true) else (0, false)
end Go.Proofs.Ytjanphcfflahkaa.deal
