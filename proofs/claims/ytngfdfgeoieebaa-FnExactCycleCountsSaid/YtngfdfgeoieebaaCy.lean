/- Maps: blocks of nineteen numbers. -/
import Derived.Test.YtngfdfgeoieebaaMx
import Derived.Laws.ResultCell
namespace Go.Proofs.Ytngfdfgeoieebaa.maps
open Go.RowKit
open cards reg
set_option linter.unusedVariables false

abbrev cnt (f : Nat → Int) : Array Value := #[.int .i64 (f 0), .int .i64 (f 1), .int .i64 (f 2), .int .i64 (f 3), .int .i64 (f 4), .int .i64 (f 5), .int .i64 (f 6), .int .i64 (f 7), .int .i64 (f 8), .int .i64 (f 9), .int .i64 (f 10), .int .i64 (f 11), .int .i64 (f 12), .int .i64 (f 13), .int .i64 (f 14), .int .i64 (f 15), .int .i64 (f 16), .int .i64 (f 17), .int .i64 (f 18)]
abbrev zeroC : Nat → Int := fun _ => 0
def upd (f : Nat → Int) (j : Nat) (v : Int) : Nat → Int := fun i => if i = j then v else f i
def CBox (w : World) (g : Nat) (f : Nat → Int) : Prop := w.heap[g]? = some (.cells (cnt f) 57)
theorem CBox.lt {w : World} {g : Nat} {f : Nat → Int} (h : CBox w g f) : g < w.heap.size := (Array.getElem?_eq_some_iff.1 h).1
theorem CBox.newAt {w : World} {g : Nat} {f : Nat → Int} {o : Obj} (h : w.heap.size = g) (ho : o = .cells (cnt f) 57) : CBox (w.alloc o) g f := by subst h; subst ho; exact heap_alloc_new w _
theorem CBox.alloc {w : World} {g : Nat} {f : Nat → Int} (h : CBox w g f) (o : Obj) : CBox (w.alloc o) g f := (Below.heap_alloc w o g h.lt).trans h
theorem CBox.drewN {w : World} {g : Nat} {f : Nat → Int} (h : CBox w g f) (n : Nat) : CBox (w.drewN n) g f := h
theorem CBox.below {w w1 : World} {g : Nat} {f : Nat → Int} (h : CBox w g f) (b : Below w.heap.size w w1) : CBox w1 g f := (b.block g h.lt).trans h
theorem CBox.under {w w1 : World} {g B : Nat} {f : Nat → Int} (h : CBox w g f) (hg : g < B) (b : Below B w w1) : CBox w1 g f := (b.block g hg).trans h
theorem CBox.frozen {w : World} {g : Nat} {f : Nat → Int} (h : CBox w g f) : ∀ i, w.frozen? ⟨g, i, none⟩ = false := fun i => frozen_of_row w g i _ _ h
theorem CBox.far {w : World} {g : Nat} {f : Nat → Int} (h : CBox w g f) {p : Addr} (hp : g ≠ p.block) (u : Value) : CBox (w.setCell p u) g f := (Below.heap_setCell w p u g hp).trans h
theorem CBox.marked {w w1 : World} {g : Nat} {f : Nat → Int} {row : Option Nat} (h : CBox w g f) (hg : w.grownBy w1 row) (h2 : row ≠ some g) : CBox w1 g f :=
  (hg.block g h.lt (Ne.symm h2)).trans h
theorem j19 {j : Nat} (h : j < 19) : j = 0 ∨ j = 1 ∨ j = 2 ∨ j = 3 ∨ j = 4 ∨ j = 5 ∨ j = 6 ∨ j = 7 ∨ j = 8 ∨ j = 9 ∨ j = 10 ∨ j = 11 ∨ j = 12 ∨ j = 13 ∨ j = 14 ∨ j = 15 ∨ j = 16 ∨ j = 17 ∨ j = 18 := by omega
theorem cnt_at (f : Nat → Int) {j : Nat} (h : j < 19) : (cnt f)[j]? = some (.int .i64 (f j)) := by
  rcases j19 h with rfl | rfl | rfl | rfl | rfl | rfl | rfl | rfl | rfl | rfl | rfl | rfl | rfl | rfl | rfl | rfl | rfl | rfl | rfl <;> rfl
theorem cnt_set (f : Nat → Int) {j : Nat} (h : j < 19) (v : Int) : (cnt f).set! j (.int .i64 v) = cnt (upd f j v) := by
  rcases j19 h with rfl | rfl | rfl | rfl | rfl | rfl | rfl | rfl | rfl | rfl | rfl | rfl | rfl | rfl | rfl | rfl | rfl | rfl | rfl <;> rfl
theorem CBox.at_ {w : World} {g : Nat} {f : Nat → Int} (h : CBox w g f) {j : Nat} (hj : j < 19) : w.cell? ⟨g, j, none⟩ = some (.int .i64 (f j)) := by
  unfold CBox at h; rw [cell_of_row w g j _ _ _ h]; exact cnt_at f hj
theorem CBox.set_ {w : World} {g : Nat} {f : Nat → Int} (h : CBox w g f) {j : Nat} (hj : j < 19) (v : Int) : CBox (w.setCell ⟨g, j, none⟩ (.int .i64 v)) g (upd f j v) := by
  unfold CBox at h ⊢
  rw [heap_setCell_same _ g j _ _ _ h]
  show some (Obj.cells ((cnt f).set! j (.int .i64 v)) 57) = _
  rw [cnt_set f hj]
theorem CBox.there {w : World} {g : Nat} {f : Nat → Int} (h : CBox w g f) : w.there g 0 19 := fun j hj => ⟨by rw [Nat.zero_add, h.at_ hj]; rfl, h.frozen _⟩
theorem setCells_block : ∀ (vs : List Value) (o : Nat) (w : World) (g : Nat) (cs : Array Value) (t : TypeId), w.heap[g]? = some (.cells cs t) → ∃ cs', (w.setCells g o vs).heap[g]? = some (.cells cs' t) ∧ cs'.size = cs.size ∧ ∀ i, cs'[i]? = if o ≤ i ∧ i < o + vs.length ∧ i < cs.size then vs[i - o]? else cs[i]?
  | [], o, w, g, cs, t, h => ⟨cs, h, rfl, fun i => by rw [if_neg (by simp; omega)]⟩
  | v :: r, o, w, g, cs, t, h => by
    obtain ⟨cs', h1, h2, h3⟩ := setCells_block r (o + 1) (w.setCell ⟨g, o, none⟩ v) g (cs.set! o v) t (heap_setCell_same _ g o _ _ _ h)
    refine ⟨cs', h1, by rw [h2]; simp, fun i => ?_⟩
    rw [h3 i]
    have hs : (cs.set! o v).size = cs.size := by simp
    rw [hs]
    by_cases e1 : o + 1 ≤ i ∧ i < o + 1 + r.length ∧ i < cs.size
    · rw [if_pos e1, if_pos (by simp; omega), show i - o = (i - (o + 1)) + 1 by omega]; rfl
    · rw [if_neg e1]
      by_cases e2 : o ≤ i ∧ i < o + (v :: r).length ∧ i < cs.size
      · obtain rfl : i = o := by simp at e2; omega
        rw [if_pos e2, Nat.sub_self]
        simp [Array.getElem?_setIfInBounds, e2.2.2]
      · rw [if_neg e2]
        rw [Array.set!_eq_setIfInBounds, Array.getElem?_setIfInBounds]
        by_cases e3 : o = i
        · subst e3
          have : ¬ o < cs.size := by simp at e2; omega
          simp [this]
        · simp [e3]
theorem CBox.stored {w : World} {g : Nat} {f0 : Nat → Int} (h : CBox w g f0) (f : Nat → Int) : CBox (w.setCells g 0 (cnt f).toList) g f := by
  obtain ⟨cs', h1, h2, h3⟩ := setCells_block (cnt f).toList 0 w g _ _ h
  unfold CBox
  rw [h1]
  have : cs' = cnt f := Array.ext_getElem? (fun i => by
    rw [h3 i]
    by_cases hi : i < 19
    · rw [if_pos (by simp; omega)]; simp
    · rw [if_neg (by simp; omega)]; rw [Array.getElem?_eq_none (by simp; omega), Array.getElem?_eq_none (by simp; omega)])
  rw [this]
theorem load_cnt {w : World} {g : Nat} {f : Nat → Int} (h : CBox w g f) : (loadVar 57 ⟨g, 0, none⟩).run Try.prog w = .ok (.agg (cnt f)) w :=
  run_loadVar_row w g 57 57 (cnt f) (0, 0) _ h Try.underlying57 rfl (by kernel_rfl)
theorem take_cnt {ops : Array Oper} {rest : List Oper} {o : Oper} {a : Act} {w : World} {Q : Exit → Act → World → Prop} (hgd : o.guard = none) (x : Operand) (ho : o.op = .load 57 x) {g : Nat} {f : Nat → Int} (h : CBox w g f) (hx : a.eval x = .pointer (some ⟨g, 0, none⟩))
    (hk : wpList Try.prog ops Q rest (a.put o.dst (.agg (cnt f))) w) : wpList Try.prog ops Q (o :: rest) a w :=
  wpList_load_row hgd 57 x ho g hx 57 (cnt f) (0, 0) _ h Try.underlying57 rfl (by kernel_rfl) hk
theorem store_cnt {ops : Array Oper} {rest : List Oper} {o : Oper} {a : Act} {w : World} {Q : Exit → Act → World → Prop} (hgd : o.guard = none) (x y : Operand) (ho : o.op = .store 57 x y) {g : Nat} {z : Nat → Int} (h : CBox w g z) (hx : a.eval x = .pointer (some ⟨g, 0, none⟩))
    (f : Nat → Int) (hy : a.eval y = .agg (cnt f)) (hk : ∀ w', CBox w' g f → w.grownBy w' (some g) → wpList Try.prog ops Q rest (a.put o.dst undef) w') : wpList Try.prog ops Q (o :: rest) a w :=
  wpList_store_mid hgd 57 x y ho g 0 (cnt f) hx hy h.there (by kernel_rfl) (by simp [Value.oneCell']) (hk _ (CBox.stored h f) (grown_sets g _ _ _))
theorem res_cnt2 {fn : Func} {i u : Tmp} (hf : fn.results = #[.cell i 57, .tmp u]) {tmps : Array Value} {w : World} {g : Nat} {f : Nat → Int} (ht : tmps.getD i undef = .pointer (some ⟨g, 0, none⟩)) (h : CBox w g f) :
    (results fn tmps).run Try.prog w = .ok (.tuple #[.agg (cnt f), tmps.getD u undef]) w := by
  have hl := load_cnt h
  rw [results_cell_tmp hf, ht]
  simp [asAddr, hl, Result.andThen]
/-- How many of the first k cards are in orbits with so many cards. -/
noncomputable def cyc (m : Mp) : Nat → Nat → Int
  | 0 => zeroC
  | k + 1 => upd (cyc m k) (orbN m (cdAt (k : Int))) (cyc m k (orbN m (cdAt (k : Int))) + 1)
theorem cyc_bd (m : Mp) (k i : Nat) : 0 ≤ cyc m k i ∧ cyc m k i ≤ k := by
  induction k with
  | zero => exact ⟨Int.le_refl _, Int.le_refl _⟩
  | succ k ih =>
    show 0 ≤ upd _ _ _ i ∧ upd _ _ _ i ≤ _
    unfold upd
    split
    · rename_i h; subst h; omega
    · omega
noncomputable def cycR (m : Mp) : (Nat → Int) × Bool := if m.ok = true then (cyc m 81, true) else (zeroC, false)
end Go.Proofs.Ytngfdfgeoieebaa.maps
