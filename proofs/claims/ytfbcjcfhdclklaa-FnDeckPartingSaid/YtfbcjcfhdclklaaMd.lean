/- Maps: the law's own functions on them. -/
import Derived.Test.YtfbcjcfhdclklaaMc
namespace Go.Proofs.Ytfbcjcfhdclklaa.maps
open Go.RowKit
open cards
set_option linter.unusedVariables false

/-- A block that holds the rows of a Map. -/
abbrev Mp.robj (m : Mp) : Obj := .cells #[.int .i64 m.v0.a, .int .i64 m.v0.b, .int .i64 m.v0.c, .int .i64 m.v1.a, .int .i64 m.v1.b, .int .i64 m.v1.c, .int .i64 m.v2.a, .int .i64 m.v2.b, .int .i64 m.v2.c, .int .i64 m.v3.a, .int .i64 m.v3.b, .int .i64 m.v3.c] 84
def RBox (w : World) (g : Nat) (m : Mp) : Prop := w.heap[g]? = some m.robj
theorem RBox.lt {w : World} {g : Nat} {x : Mp} (h : RBox w g x) : g < w.heap.size := by
  rcases Nat.lt_or_ge g w.heap.size with h1 | h1
  · exact h1
  · unfold RBox at h; rw [Array.getElem?_eq_none h1] at h; cases h
theorem RBox.newAt {w : World} {g : Nat} {x : Mp} {o : Obj} (h : w.heap.size = g) (ho : o = x.robj) : RBox (w.alloc o) g x := by subst h; subst ho; exact heap_alloc_new w _
theorem RBox.alloc {w : World} {g : Nat} {x : Mp} (h : RBox w g x) (o : Obj) : RBox (w.alloc o) g x := (Below.heap_alloc w o g h.lt).trans h
theorem RBox.below {w w1 : World} {g : Nat} {x : Mp} (h : RBox w g x) (b : Below w.heap.size w w1) : RBox w1 g x := (b.block g h.lt).trans h
theorem RBox.drew {w : World} {g : Nat} {x : Mp} (h : RBox w g x) : RBox w.drew g x := h
theorem RBox.drewN {w : World} {g : Nat} {x : Mp} (h : RBox w g x) (n : Nat) : RBox (w.drewN n) g x := h
theorem RBox.frozen {w : World} {g : Nat} {x : Mp} (h : RBox w g x) : ∀ i, w.frozen? ⟨g, i, none⟩ = false := fun i => frozen_of_row w g i _ _ h
theorem RBox.far {w : World} {g : Nat} {x : Mp} (h : RBox w g x) {p : Addr} (hp : g ≠ p.block) (u : Value) : RBox (w.setCell p u) g x := (Below.heap_setCell w p u g hp).trans h
theorem RBox.cell {w : World} {g : Nat} {x : Mp} (h : RBox w g x) :
    w.cell? ⟨g, 0, none⟩ = some (.int .i64 x.v0.a) ∧ w.cell? ⟨g, 1, none⟩ = some (.int .i64 x.v0.b) ∧ w.cell? ⟨g, 2, none⟩ = some (.int .i64 x.v0.c) ∧
    w.cell? ⟨g, 3, none⟩ = some (.int .i64 x.v1.a) ∧ w.cell? ⟨g, 4, none⟩ = some (.int .i64 x.v1.b) ∧ w.cell? ⟨g, 5, none⟩ = some (.int .i64 x.v1.c) ∧
    w.cell? ⟨g, 6, none⟩ = some (.int .i64 x.v2.a) ∧ w.cell? ⟨g, 7, none⟩ = some (.int .i64 x.v2.b) ∧ w.cell? ⟨g, 8, none⟩ = some (.int .i64 x.v2.c) ∧
    w.cell? ⟨g, 9, none⟩ = some (.int .i64 x.v3.a) ∧ w.cell? ⟨g, 10, none⟩ = some (.int .i64 x.v3.b) ∧ w.cell? ⟨g, 11, none⟩ = some (.int .i64 x.v3.c) := by
  have e : ∀ i, w.cell? ⟨g, i, none⟩ = _ := fun i => cell_of_row w g i _ _ _ h
  exact ⟨e 0, e 1, e 2, e 3, e 4, e 5, e 6, e 7, e 8, e 9, e 10, e 11⟩
def rowsTo (m : Mp) (k : Nat) : Mp := ⟨zero, if 0 < k then m.v0 else zero3, if 1 < k then m.v1 else zero3, if 2 < k then m.v2 else zero3, if 3 < k then m.v3 else zero3⟩
theorem RBox.set0 {w : World} {g : Nat} {m : Mp} (h : RBox w g (rowsTo m 0)) : RBox (((w.setCell ⟨g, 0, none⟩ (.int .i64 m.v0.a)).setCell ⟨g, 1, none⟩ (.int .i64 m.v0.b)).setCell ⟨g, 2, none⟩ (.int .i64 m.v0.c)) g (rowsTo m 1) := by
  unfold RBox at h ⊢
  rw [heap_setCell_same _ g 2 _ _ _ (heap_setCell_same _ g 1 _ _ _ (heap_setCell_same w g 0 _ _ _ h))]
  rfl
theorem RBox.set1 {w : World} {g : Nat} {m : Mp} (h : RBox w g (rowsTo m 1)) : RBox (((w.setCell ⟨g, 3, none⟩ (.int .i64 m.v1.a)).setCell ⟨g, 4, none⟩ (.int .i64 m.v1.b)).setCell ⟨g, 5, none⟩ (.int .i64 m.v1.c)) g (rowsTo m 2) := by
  unfold RBox at h ⊢
  rw [heap_setCell_same _ g 5 _ _ _ (heap_setCell_same _ g 4 _ _ _ (heap_setCell_same w g 3 _ _ _ h))]
  rfl
theorem RBox.set2 {w : World} {g : Nat} {m : Mp} (h : RBox w g (rowsTo m 2)) : RBox (((w.setCell ⟨g, 6, none⟩ (.int .i64 m.v2.a)).setCell ⟨g, 7, none⟩ (.int .i64 m.v2.b)).setCell ⟨g, 8, none⟩ (.int .i64 m.v2.c)) g (rowsTo m 3) := by
  unfold RBox at h ⊢
  rw [heap_setCell_same _ g 8 _ _ _ (heap_setCell_same _ g 7 _ _ _ (heap_setCell_same w g 6 _ _ _ h))]
  rfl
theorem RBox.set3 {w : World} {g : Nat} {m : Mp} (h : RBox w g (rowsTo m 3)) : RBox (((w.setCell ⟨g, 9, none⟩ (.int .i64 m.v3.a)).setCell ⟨g, 10, none⟩ (.int .i64 m.v3.b)).setCell ⟨g, 11, none⟩ (.int .i64 m.v3.c)) g (rowsTo m 4) := by
  unfold RBox at h ⊢
  rw [heap_setCell_same _ g 11 _ _ _ (heap_setCell_same _ g 10 _ _ _ (heap_setCell_same w g 9 _ _ _ h))]
  rfl
theorem RBox.setAll {w : World} {g : Nat} {x : Mp} (h : RBox w g x) (y : Mp) : RBox ((((((((((((w.setCell ⟨g, 0, none⟩ (.int .i64 y.v0.a)).setCell ⟨g, 1, none⟩ (.int .i64 y.v0.b)).setCell ⟨g, 2, none⟩ (.int .i64 y.v0.c)).setCell ⟨g, 3, none⟩ (.int .i64 y.v1.a)).setCell ⟨g, 4, none⟩ (.int .i64 y.v1.b)).setCell ⟨g, 5, none⟩ (.int .i64 y.v1.c)).setCell ⟨g, 6, none⟩ (.int .i64 y.v2.a)).setCell ⟨g, 7, none⟩ (.int .i64 y.v2.b)).setCell ⟨g, 8, none⟩ (.int .i64 y.v2.c)).setCell ⟨g, 9, none⟩ (.int .i64 y.v3.a)).setCell ⟨g, 10, none⟩ (.int .i64 y.v3.b)).setCell ⟨g, 11, none⟩ (.int .i64 y.v3.c)) g y := by
  unfold RBox at h ⊢
  have h0 : (w.setCell ⟨g, 0, none⟩ (.int .i64 y.v0.a)).heap[g]? = some (.cells #[.int .i64 y.v0.a, .int .i64 x.v0.b, .int .i64 x.v0.c, .int .i64 x.v1.a, .int .i64 x.v1.b, .int .i64 x.v1.c, .int .i64 x.v2.a, .int .i64 x.v2.b, .int .i64 x.v2.c, .int .i64 x.v3.a, .int .i64 x.v3.b, .int .i64 x.v3.c] 84) := (heap_setCell_same _ g 0 _ _ _ h).trans rfl
  have h1 : ((w.setCell ⟨g, 0, none⟩ (.int .i64 y.v0.a)).setCell ⟨g, 1, none⟩ (.int .i64 y.v0.b)).heap[g]? = some (.cells #[.int .i64 y.v0.a, .int .i64 y.v0.b, .int .i64 x.v0.c, .int .i64 x.v1.a, .int .i64 x.v1.b, .int .i64 x.v1.c, .int .i64 x.v2.a, .int .i64 x.v2.b, .int .i64 x.v2.c, .int .i64 x.v3.a, .int .i64 x.v3.b, .int .i64 x.v3.c] 84) := (heap_setCell_same _ g 1 _ _ _ h0).trans rfl
  have h2 : (((w.setCell ⟨g, 0, none⟩ (.int .i64 y.v0.a)).setCell ⟨g, 1, none⟩ (.int .i64 y.v0.b)).setCell ⟨g, 2, none⟩ (.int .i64 y.v0.c)).heap[g]? = some (.cells #[.int .i64 y.v0.a, .int .i64 y.v0.b, .int .i64 y.v0.c, .int .i64 x.v1.a, .int .i64 x.v1.b, .int .i64 x.v1.c, .int .i64 x.v2.a, .int .i64 x.v2.b, .int .i64 x.v2.c, .int .i64 x.v3.a, .int .i64 x.v3.b, .int .i64 x.v3.c] 84) := (heap_setCell_same _ g 2 _ _ _ h1).trans rfl
  have h3 : ((((w.setCell ⟨g, 0, none⟩ (.int .i64 y.v0.a)).setCell ⟨g, 1, none⟩ (.int .i64 y.v0.b)).setCell ⟨g, 2, none⟩ (.int .i64 y.v0.c)).setCell ⟨g, 3, none⟩ (.int .i64 y.v1.a)).heap[g]? = some (.cells #[.int .i64 y.v0.a, .int .i64 y.v0.b, .int .i64 y.v0.c, .int .i64 y.v1.a, .int .i64 x.v1.b, .int .i64 x.v1.c, .int .i64 x.v2.a, .int .i64 x.v2.b, .int .i64 x.v2.c, .int .i64 x.v3.a, .int .i64 x.v3.b, .int .i64 x.v3.c] 84) := (heap_setCell_same _ g 3 _ _ _ h2).trans rfl
  have h4 : (((((w.setCell ⟨g, 0, none⟩ (.int .i64 y.v0.a)).setCell ⟨g, 1, none⟩ (.int .i64 y.v0.b)).setCell ⟨g, 2, none⟩ (.int .i64 y.v0.c)).setCell ⟨g, 3, none⟩ (.int .i64 y.v1.a)).setCell ⟨g, 4, none⟩ (.int .i64 y.v1.b)).heap[g]? = some (.cells #[.int .i64 y.v0.a, .int .i64 y.v0.b, .int .i64 y.v0.c, .int .i64 y.v1.a, .int .i64 y.v1.b, .int .i64 x.v1.c, .int .i64 x.v2.a, .int .i64 x.v2.b, .int .i64 x.v2.c, .int .i64 x.v3.a, .int .i64 x.v3.b, .int .i64 x.v3.c] 84) := (heap_setCell_same _ g 4 _ _ _ h3).trans rfl
  have h5 : ((((((w.setCell ⟨g, 0, none⟩ (.int .i64 y.v0.a)).setCell ⟨g, 1, none⟩ (.int .i64 y.v0.b)).setCell ⟨g, 2, none⟩ (.int .i64 y.v0.c)).setCell ⟨g, 3, none⟩ (.int .i64 y.v1.a)).setCell ⟨g, 4, none⟩ (.int .i64 y.v1.b)).setCell ⟨g, 5, none⟩ (.int .i64 y.v1.c)).heap[g]? = some (.cells #[.int .i64 y.v0.a, .int .i64 y.v0.b, .int .i64 y.v0.c, .int .i64 y.v1.a, .int .i64 y.v1.b, .int .i64 y.v1.c, .int .i64 x.v2.a, .int .i64 x.v2.b, .int .i64 x.v2.c, .int .i64 x.v3.a, .int .i64 x.v3.b, .int .i64 x.v3.c] 84) := (heap_setCell_same _ g 5 _ _ _ h4).trans rfl
  have h6 : (((((((w.setCell ⟨g, 0, none⟩ (.int .i64 y.v0.a)).setCell ⟨g, 1, none⟩ (.int .i64 y.v0.b)).setCell ⟨g, 2, none⟩ (.int .i64 y.v0.c)).setCell ⟨g, 3, none⟩ (.int .i64 y.v1.a)).setCell ⟨g, 4, none⟩ (.int .i64 y.v1.b)).setCell ⟨g, 5, none⟩ (.int .i64 y.v1.c)).setCell ⟨g, 6, none⟩ (.int .i64 y.v2.a)).heap[g]? = some (.cells #[.int .i64 y.v0.a, .int .i64 y.v0.b, .int .i64 y.v0.c, .int .i64 y.v1.a, .int .i64 y.v1.b, .int .i64 y.v1.c, .int .i64 y.v2.a, .int .i64 x.v2.b, .int .i64 x.v2.c, .int .i64 x.v3.a, .int .i64 x.v3.b, .int .i64 x.v3.c] 84) := (heap_setCell_same _ g 6 _ _ _ h5).trans rfl
  have h7 : ((((((((w.setCell ⟨g, 0, none⟩ (.int .i64 y.v0.a)).setCell ⟨g, 1, none⟩ (.int .i64 y.v0.b)).setCell ⟨g, 2, none⟩ (.int .i64 y.v0.c)).setCell ⟨g, 3, none⟩ (.int .i64 y.v1.a)).setCell ⟨g, 4, none⟩ (.int .i64 y.v1.b)).setCell ⟨g, 5, none⟩ (.int .i64 y.v1.c)).setCell ⟨g, 6, none⟩ (.int .i64 y.v2.a)).setCell ⟨g, 7, none⟩ (.int .i64 y.v2.b)).heap[g]? = some (.cells #[.int .i64 y.v0.a, .int .i64 y.v0.b, .int .i64 y.v0.c, .int .i64 y.v1.a, .int .i64 y.v1.b, .int .i64 y.v1.c, .int .i64 y.v2.a, .int .i64 y.v2.b, .int .i64 x.v2.c, .int .i64 x.v3.a, .int .i64 x.v3.b, .int .i64 x.v3.c] 84) := (heap_setCell_same _ g 7 _ _ _ h6).trans rfl
  have h8 : (((((((((w.setCell ⟨g, 0, none⟩ (.int .i64 y.v0.a)).setCell ⟨g, 1, none⟩ (.int .i64 y.v0.b)).setCell ⟨g, 2, none⟩ (.int .i64 y.v0.c)).setCell ⟨g, 3, none⟩ (.int .i64 y.v1.a)).setCell ⟨g, 4, none⟩ (.int .i64 y.v1.b)).setCell ⟨g, 5, none⟩ (.int .i64 y.v1.c)).setCell ⟨g, 6, none⟩ (.int .i64 y.v2.a)).setCell ⟨g, 7, none⟩ (.int .i64 y.v2.b)).setCell ⟨g, 8, none⟩ (.int .i64 y.v2.c)).heap[g]? = some (.cells #[.int .i64 y.v0.a, .int .i64 y.v0.b, .int .i64 y.v0.c, .int .i64 y.v1.a, .int .i64 y.v1.b, .int .i64 y.v1.c, .int .i64 y.v2.a, .int .i64 y.v2.b, .int .i64 y.v2.c, .int .i64 x.v3.a, .int .i64 x.v3.b, .int .i64 x.v3.c] 84) := (heap_setCell_same _ g 8 _ _ _ h7).trans rfl
  have h9 : ((((((((((w.setCell ⟨g, 0, none⟩ (.int .i64 y.v0.a)).setCell ⟨g, 1, none⟩ (.int .i64 y.v0.b)).setCell ⟨g, 2, none⟩ (.int .i64 y.v0.c)).setCell ⟨g, 3, none⟩ (.int .i64 y.v1.a)).setCell ⟨g, 4, none⟩ (.int .i64 y.v1.b)).setCell ⟨g, 5, none⟩ (.int .i64 y.v1.c)).setCell ⟨g, 6, none⟩ (.int .i64 y.v2.a)).setCell ⟨g, 7, none⟩ (.int .i64 y.v2.b)).setCell ⟨g, 8, none⟩ (.int .i64 y.v2.c)).setCell ⟨g, 9, none⟩ (.int .i64 y.v3.a)).heap[g]? = some (.cells #[.int .i64 y.v0.a, .int .i64 y.v0.b, .int .i64 y.v0.c, .int .i64 y.v1.a, .int .i64 y.v1.b, .int .i64 y.v1.c, .int .i64 y.v2.a, .int .i64 y.v2.b, .int .i64 y.v2.c, .int .i64 y.v3.a, .int .i64 x.v3.b, .int .i64 x.v3.c] 84) := (heap_setCell_same _ g 9 _ _ _ h8).trans rfl
  have h10 : (((((((((((w.setCell ⟨g, 0, none⟩ (.int .i64 y.v0.a)).setCell ⟨g, 1, none⟩ (.int .i64 y.v0.b)).setCell ⟨g, 2, none⟩ (.int .i64 y.v0.c)).setCell ⟨g, 3, none⟩ (.int .i64 y.v1.a)).setCell ⟨g, 4, none⟩ (.int .i64 y.v1.b)).setCell ⟨g, 5, none⟩ (.int .i64 y.v1.c)).setCell ⟨g, 6, none⟩ (.int .i64 y.v2.a)).setCell ⟨g, 7, none⟩ (.int .i64 y.v2.b)).setCell ⟨g, 8, none⟩ (.int .i64 y.v2.c)).setCell ⟨g, 9, none⟩ (.int .i64 y.v3.a)).setCell ⟨g, 10, none⟩ (.int .i64 y.v3.b)).heap[g]? = some (.cells #[.int .i64 y.v0.a, .int .i64 y.v0.b, .int .i64 y.v0.c, .int .i64 y.v1.a, .int .i64 y.v1.b, .int .i64 y.v1.c, .int .i64 y.v2.a, .int .i64 y.v2.b, .int .i64 y.v2.c, .int .i64 y.v3.a, .int .i64 y.v3.b, .int .i64 x.v3.c] 84) := (heap_setCell_same _ g 10 _ _ _ h9).trans rfl
  have h11 : ((((((((((((w.setCell ⟨g, 0, none⟩ (.int .i64 y.v0.a)).setCell ⟨g, 1, none⟩ (.int .i64 y.v0.b)).setCell ⟨g, 2, none⟩ (.int .i64 y.v0.c)).setCell ⟨g, 3, none⟩ (.int .i64 y.v1.a)).setCell ⟨g, 4, none⟩ (.int .i64 y.v1.b)).setCell ⟨g, 5, none⟩ (.int .i64 y.v1.c)).setCell ⟨g, 6, none⟩ (.int .i64 y.v2.a)).setCell ⟨g, 7, none⟩ (.int .i64 y.v2.b)).setCell ⟨g, 8, none⟩ (.int .i64 y.v2.c)).setCell ⟨g, 9, none⟩ (.int .i64 y.v3.a)).setCell ⟨g, 10, none⟩ (.int .i64 y.v3.b)).setCell ⟨g, 11, none⟩ (.int .i64 y.v3.c)).heap[g]? = some (.cells #[.int .i64 y.v0.a, .int .i64 y.v0.b, .int .i64 y.v0.c, .int .i64 y.v1.a, .int .i64 y.v1.b, .int .i64 y.v1.c, .int .i64 y.v2.a, .int .i64 y.v2.b, .int .i64 y.v2.c, .int .i64 y.v3.a, .int .i64 y.v3.b, .int .i64 y.v3.c] 84) := (heap_setCell_same _ g 11 _ _ _ h10).trans rfl
  exact h11
theorem load_rows {w : World} {g : Nat} {m : Mp} (h : RBox w g m) : (loadVar 84 ⟨g, 0, none⟩).run Try.prog w = .ok m.rows w := by
  obtain ⟨h0, h1, h2, h3, h4, h5, h6, h7, h8, h9, h10, h11⟩ := h.cell
  simp [loadVar, go_sem, h0, h1, h2, h3, h4, h5, h6, h7, h8, h9, h10, h11]
theorem res_rows {fn : Func} {i : Tmp} (hf : fn.results = #[.cell i 84]) {tmps : Array Value} {w : World} {g : Nat} {m : Mp} (ht : tmps.getD i undef = .pointer (some ⟨g, 0, none⟩)) (h : RBox w g m) :
    (results fn tmps).run Try.prog w = .ok m.rows w := by
  have hl := load_rows h
  rw [Array.getD_eq_getD_getElem?] at ht
  simp only [results, hf]
  simp [Sem.run_bind, ht, asAddr, hl]

end Go.Proofs.Ytfbcjcfhdclklaa.maps
