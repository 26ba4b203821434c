/- Blocks that hold an array of whatever type: what is known of them is the whole row of their cells. -/
import Derived.Test.YtkmkochganknmaaRc
import Derived.Laws.ResultCell
import Derived.Laws.Rows
import Derived.IntWalk
import Derived.Laws.AppendOwn
import Derived.Maps.AppendAt
namespace Go.Proofs.Ytkmkochganknmaa.cards
open Go.RowKit
open reg
set_option linter.unusedVariables false

/-- Block g holds just these cells. -/
def VB (w : World) (g : Nat) (T : TypeId) (cs : Array Value) : Prop := w.heap[g]? = some (.cells cs T)
section
variable {w w1 : World} {g : Nat} {T : TypeId} {cs : Array Value}
theorem VB.lt (h : VB w g T cs) : g < w.heap.size := (Array.getElem?_eq_some_iff.1 h).1
theorem VB.newAt {o : Obj} (h : w.heap.size = g) (ho : o = .cells cs T) : VB (w.alloc o) g T cs := by subst h; subst ho; exact heap_alloc_new w _
theorem VB.alloc (h : VB w g T cs) (o : Obj) : VB (w.alloc o) g T cs := (Below.heap_alloc w o g h.lt).trans h
theorem VB.drew (h : VB w g T cs) : VB w.drew g T cs := h
theorem VB.drewN (h : VB w g T cs) (n : Nat) : VB (w.drewN n) g T cs := h
theorem VB.below (h : VB w g T cs) (b : Below w.heap.size w w1) : VB w1 g T cs := (b.block g h.lt).trans h
theorem VB.under {B : Nat} (h : VB w g T cs) (hg : g < B) (b : Below B w w1) : VB w1 g T cs := (b.block g hg).trans h
theorem VB.frozen (h : VB w g T cs) : ∀ i, w.frozen? ⟨g, i, none⟩ = false := fun i => frozen_of_row w g i _ _ h
theorem VB.far (h : VB w g T cs) {p : Addr} (hp : g ≠ p.block) (u : Value) : VB (w.setCell p u) g T cs := (Below.heap_setCell w p u g hp).trans h
theorem VB.marked {row : Option Nat} (h : VB w g T cs) (hg : w.grownBy w1 row) (h2 : row ≠ some g) : VB w1 g T cs := (hg.block g h.lt (Ne.symm h2)).trans h
theorem VB.at_ (h : VB w g T cs) {j : Nat} {v : Value} (hj : cs[j]? = some v) : w.cell? ⟨g, j, none⟩ = some v := by
  unfold VB at h; rw [cell_of_row w g j _ _ _ h]; exact hj
theorem VB.set_ (h : VB w g T cs) {cs' : Array Value} {j : Nat} {v : Value} (hc : cs.set! j v = cs') : VB (w.setCell ⟨g, j, none⟩ v) g T cs' := by
  unfold VB at h ⊢
  rw [heap_setCell_same _ g j _ _ _ h, ← hc]; rfl
theorem VB.there (h : VB w g T cs) : w.there g 0 cs.size := fun j hj => ⟨by rw [Nat.zero_add, h.at_ (Array.getElem?_eq_getElem hj)]; rfl, h.frozen _⟩
end
theorem setCells_row : ∀ (vs : List Value) (o : Nat) (w : World) (g : Nat) (cs : Array Value) (t : TypeId), w.heap[g]? = some (.cells cs t) → ∃ cs', (w.setCells g o vs).heap[g]? = some (.cells cs' t) ∧ cs'.size = cs.size ∧ ∀ i, cs'[i]? = if o ≤ i ∧ i < o + vs.length ∧ i < cs.size then vs[i - o]? else cs[i]?
  | [], o, w, g, cs, t, h => ⟨cs, h, rfl, fun i => by rw [if_neg (by simp; omega)]⟩
  | v :: r, o, w, g, cs, t, h => by
    obtain ⟨cs', h1, h2, h3⟩ := setCells_row r (o + 1) (w.setCell ⟨g, o, none⟩ v) g (cs.set! o v) t (heap_setCell_same _ g o _ _ _ h)
    refine ⟨cs', h1, by rw [h2]; simp, fun i => ?_⟩
    rw [h3 i]
    have hs : (cs.set! o v).size = cs.size := by simp
    rw [hs]
    by_cases e1 : o + 1 ≤ i ∧ i < o + 1 + r.length ∧ i < cs.size
    · rw [if_pos e1, if_pos (by simp; omega), show i - o = (i - (o + 1)) + 1 by omega]; rfl
    · rw [if_neg e1]
      by_cases e2 : o ≤ i ∧ i < o + (v :: r).length ∧ i < cs.size
      · obtain rfl : i = o := by simp at e2; omega
        rw [if_pos e2, Nat.sub_self]
        simp [e2.2.2]
      · rw [if_neg e2]
        rw [Array.set!_eq_setIfInBounds, Array.getElem?_setIfInBounds]
        by_cases e3 : o = i
        · subst e3
          have : ¬ o < cs.size := by simp at e2; omega
          simp [this]
        · simp [e3]
theorem VB.stored {w : World} {g : Nat} {T : TypeId} {cs cs2 : Array Value} (h : VB w g T cs) (hs : cs2.size = cs.size) : VB (w.setCells g 0 cs2.toList) g T cs2 := by
  obtain ⟨cs', h1, h2, h3⟩ := setCells_row cs2.toList 0 w g _ _ h
  unfold VB
  rw [h1]
  have : cs' = cs2 := Array.ext_getElem? (fun i => by
    rw [h3 i]
    by_cases hi : i < cs.size
    · rw [if_pos (by simp; omega)]; simp
    · rw [if_neg (by omega), Array.getElem?_eq_none (by omega), Array.getElem?_eq_none (by omega)])
  rw [this]
theorem VB.load {w : World} {g : Nat} {T : TypeId} {cs : Array Value} (h : VB w g T cs) {K : Nat} {e : TypeId} (hu : (Try.prog).underlying T = some (.array K e)) (hi : ((Try.prog).info? T).map (·.size) = some cs.size) : (loadVar T ⟨g, 0, none⟩).run Try.prog w = .ok (.agg cs) w :=
  run_loadVar_row w g T T cs (0, 0) _ h hu rfl hi
theorem take_vb {ops : Array Oper} {rest : List Oper} {o : Oper} {a : Act} {w : World} {Q : Exit → Act → World → Prop} (hgd : o.guard = none) (T : TypeId) (x : Operand) (ho : o.op = .load T x) {g : Nat} {cs : Array Value} (h : VB w g T cs) {K : Nat} {e : TypeId} (hu : (Try.prog).underlying T = some (.array K e)) (hi : ((Try.prog).info? T).map (·.size) = some cs.size)
    (hx : a.eval x = .pointer (some ⟨g, 0, none⟩)) (hk : wpList Try.prog ops Q rest (a.put o.dst (.agg cs)) w) : wpList Try.prog ops Q (o :: rest) a w :=
  wpList_load_row hgd T x ho g hx T cs (0, 0) _ h hu rfl hi hk
theorem grown_setV (w : World) (g i : Nat) (v : Value) : w.grownBy (w.setCell ⟨g, i, none⟩ v) (some g) :=
  ⟨rfl, rfl, rfl, by simp [World.setCell], fun k hk hne => Below.heap_setCell _ _ _ _ (fun e => hne (by rw [e]))⟩
theorem grown_setsV (g : Nat) : ∀ (vs : List Value) (o : Nat) (w : World), w.grownBy (w.setCells g o vs) (some g)
  | [], o, w => World.grownBy.refl w _
  | v :: r, o, w => World.grownBy.trans (grown_setV w g o v) (grown_setsV g r (o + 1) _)
theorem store_vb {ops : Array Oper} {rest : List Oper} {o : Oper} {a : Act} {w : World} {Q : Exit → Act → World → Prop} (hgd : o.guard = none) (T : TypeId) (x y : Operand) (ho : o.op = .store T x y) {g : Nat} {cs : Array Value} (h : VB w g T cs) (hi : ((Try.prog).info? T).map (·.size) = some cs.size) (hx : a.eval x = .pointer (some ⟨g, 0, none⟩))
    (cs2 : Array Value) (hs : cs2.size = cs.size) (h1 : cs2.all (·.oneCell') = true) (hy : a.eval y = .agg cs2) (hk : ∀ w', VB w' g T cs2 → w.grownBy w' (some g) → wpList Try.prog ops Q rest (a.put o.dst undef) w') : wpList Try.prog ops Q (o :: rest) a w :=
  wpList_store_mid hgd T x y ho g 0 cs2 hx hy (by rw [hs]; exact h.there) (by rw [hs]; exact hi) h1 (hk _ (VB.stored h hs) (grown_setsV g _ _ _))
theorem res_vb {fn : Func} {i : Tmp} {T : TypeId} (hf : fn.results = #[.cell i T]) {tmps : Array Value} {w : World} {g : Nat} {cs : Array Value} (ht : tmps.getD i undef = .pointer (some ⟨g, 0, none⟩)) (h : VB w g T cs) {K : Nat} {e : TypeId} (hu : (Try.prog).underlying T = some (.array K e)) (hi : ((Try.prog).info? T).map (·.size) = some cs.size) :
    (results fn tmps).run Try.prog w = .ok (.agg cs) w := by
  have hl := h.load hu hi
  rw [Array.getD_eq_getD_getElem?] at ht
  simp only [results, hf]
  simp [ht, asAddr, hl]
theorem res_vb2 {fn : Func} {i u : Tmp} {T : TypeId} (hf : fn.results = #[.cell i T, .tmp u]) {tmps : Array Value} {w : World} {g : Nat} {cs : Array Value} (ht : tmps.getD i undef = .pointer (some ⟨g, 0, none⟩)) (h : VB w g T cs) {K : Nat} {e : TypeId} (hu : (Try.prog).underlying T = some (.array K e)) (hi : ((Try.prog).info? T).map (·.size) = some cs.size) :
    (results fn tmps).run Try.prog w = .ok (.tuple #[.agg cs, tmps.getD u undef]) w := by
  have hl := h.load hu hi
  rw [results_cell_tmp hf, ht]
  simp [asAddr, hl, Result.andThen]
/-! Single operations, for regions that draw their order. -/
theorem exec_indexN {T : TypeId} {N : Nat} {a : Act} {o : Oper} {p q : Operand} (ho : o.op = .indexAddr T p q) {g : Nat} (hp : a.eval p = .pointer (some ⟨g, 0, none⟩)) (hq : a.eval q = .int .i64 N)
    (hrun : ∀ w : World, (Instr.indexAt T (.pointer (some ⟨g, 0, none⟩)) (.int .i64 N)).run Try.prog w = .ok (.pointer (some ⟨g, N, none⟩)) w) (w : World) :
    (execOp a.eval o).run Try.prog w = .ok (.value (.pointer (some ⟨g, N, none⟩))) w := by
  unfold execOp
  rw [ho]
  simp only [hp, hq]
  simp [hrun, Result.andThen]
theorem exec_add1 {v : Int} (hv : 0 ≤ v ∧ v ≤ 1000000) {a : Act} {o : Oper} {p : Operand} {s : TypeId} (ho : o.op = .binOp .add 3 p (.const (.int .i64 1)) s) (hp : a.eval p = .int .i64 v) (w : World) :
    (execOp a.eval o).run Try.prog w = .ok (.value (.int .i64 (v + 1))) w := by
  have h0 : (0 : Int) ≤ v := by omega
  have h1 : v ≤ 1000000 := by omega
  unfold execOp
  rw [ho]
  simp only [hp]
  go_simp
  exact IntWalk.i64_in _ (by omega)
theorem exec_storeI {a : Act} {o : Oper} {p q : Operand} (ho : o.op = .store 3 p q) {g j : Nat} {x v : Int} (hp : a.eval p = .pointer (some ⟨g, j, none⟩)) (hq : a.eval q = .int .i64 v) {w : World} (hc : w.cell? ⟨g, j, none⟩ = some (.int .i64 x)) (hf : w.frozen? ⟨g, j, none⟩ = false) :
    (execOp a.eval o).run Try.prog w = .ok .skip (w.setCell ⟨g, j, none⟩ (.int .i64 v)) := by
  unfold execOp
  rw [ho]
  simp only [hp, hq]
  go_simp
theorem exec_loadI {a : Act} {o : Oper} {p : Operand} (ho : o.op = .load 3 p) {g j : Nat} {x : Int} (hp : a.eval p = .pointer (some ⟨g, j, none⟩)) {w : World} (hc : w.cell? ⟨g, j, none⟩ = some (.int .i64 x)) :
    (execOp a.eval o).run Try.prog w = .ok (.value (.int .i64 x)) w := by
  unfold execOp
  rw [ho]
  simp only [hp]
  go_simp
/-- A number is read out of a cell, as an operation that is carried out. -/
theorem chain_loadI {ops : Array Oper} {S I : World → Prop} {n0 : Nat} {obj : Obj} {fin : Act → (World → Prop) → Prop} (d : Tmp) {i : Nat} {r : List (Bool × Nat)} {a : Act} {o : Oper} {p : Operand} {g j : Nat} {x : Int} (ho : ops[i]? = some o) (hd : o.dst = some d) (hg : o.guard = none) (hop : o.op = .load 3 p)
    (hp : a.eval p = .pointer (some ⟨g, j, none⟩)) (hc : ∀ w, I w → w.cell? ⟨g, j, none⟩ = some (.int .i64 x)) (hS : ∀ w, I w → S w) (hn : ∀ w, I w → n0 ≤ w.heap.size) (hal : ∀ w, I w → I (w.alloc obj))
    (hr : chainA Try.prog ops S n0 obj fin r (a.put (some d) (.int .i64 x)) I) : chainA Try.prog ops S n0 obj fin ((false, i) :: r) a I :=
  ⟨o, ho, hg, fun w hI => by
    rw [exec_loadI hop hp (hc w hI)]
    exact ⟨Below.refl _ _, I, ⟨hS, hn, hal⟩, hI, hd ▸ hr⟩⟩
end Go.Proofs.Ytkmkochganknmaa.cards
