/- Merged texts: Vx, Vy, Vz, Gj, Gf, Ls, Za, Mi, Zt, Zb, Gi, Gk, Gn, Go. -/
import Derived.Test.YteccbcbijfcpmaaRc
import Derived.Laws.ResultCell
import Derived.Laws.Rows
import Derived.IntWalk
import Derived.Laws.AppendOwn
import Derived.Maps.AppendAt
import Derived.Test.YteccbcbijfcpmaaGe
import Derived.Test.YteccbcbijfcpmaaUa
import Derived.Test.YteccbcbijfcpmaaLm
import Derived.Test.YteccbcbijfcpmaaIs
import Derived.Test.YteccbcbijfcpmaaQq
import Derived.Test.YteccbcbijfcpmaaAp
/- Blocks that hold an array of whatever type: what is known of them is the whole row of their cells. -/
namespace Go.Proofs.Yteccbcbijfcpmaa.cards
open Go.RowKit
open reg
set_option linter.unusedVariables false

/-- Block g holds just these cells. -/
def VB (w : World) (g : Nat) (T : TypeId) (cs : Array Value) : Prop := w.heap[g]? = some (.cells cs T)
section
variable {w w1 : World} {g : Nat} {T : TypeId} {cs : Array Value}
theorem VB.lt (h : VB w g T cs) : g < w.heap.size := (Array.getElem?_eq_some_iff.1 h).1
theorem VB.newAt {o : Obj} (h : w.heap.size = g) (ho : o = .cells cs T) : VB (w.alloc o) g T cs := by subst h; subst ho; exact heap_alloc_new w _
theorem VB.alloc (h : VB w g T cs) (o : Obj) : VB (w.alloc o) g T cs := (Below.heap_alloc w o g h.lt).trans h
theorem VB.drew (h : VB w g T cs) : VB w.drew g T cs := h
theorem VB.drewN (h : VB w g T cs) (n : Nat) : VB (w.drewN n) g T cs := h
theorem VB.below (h : VB w g T cs) (b : Below w.heap.size w w1) : VB w1 g T cs := (b.block g h.lt).trans h
theorem VB.under {B : Nat} (h : VB w g T cs) (hg : g < B) (b : Below B w w1) : VB w1 g T cs := (b.block g hg).trans h
theorem VB.frozen (h : VB w g T cs) : ∀ i, w.frozen? ⟨g, i, none⟩ = false := fun i => frozen_of_row w g i _ _ h
theorem VB.far (h : VB w g T cs) {p : Addr} (hp : g ≠ p.block) (u : Value) : VB (w.setCell p u) g T cs := (Below.heap_setCell w p u g hp).trans h
theorem VB.marked {row : Option Nat} (h : VB w g T cs) (hg : w.grownBy w1 row) (h2 : row ≠ some g) : VB w1 g T cs := (hg.block g h.lt (Ne.symm h2)).trans h
theorem VB.at_ (h : VB w g T cs) {j : Nat} {v : Value} (hj : cs[j]? = some v) : w.cell? ⟨g, j, none⟩ = some v := by
  unfold VB at h; rw [cell_of_row w g j _ _ _ h]; exact hj
theorem VB.set_ (h : VB w g T cs) {cs' : Array Value} {j : Nat} {v : Value} (hc : cs.set! j v = cs') : VB (w.setCell ⟨g, j, none⟩ v) g T cs' := by
  unfold VB at h ⊢
  rw [heap_setCell_same _ g j _ _ _ h, ← hc]; rfl
theorem VB.there (h : VB w g T cs) : w.there g 0 cs.size := fun j hj => ⟨by rw [Nat.zero_add, h.at_ (Array.getElem?_eq_getElem hj)]; rfl, h.frozen _⟩
end
theorem setCells_row : ∀ (vs : List Value) (o : Nat) (w : World) (g : Nat) (cs : Array Value) (t : TypeId), w.heap[g]? = some (.cells cs t) → ∃ cs', (w.setCells g o vs).heap[g]? = some (.cells cs' t) ∧ cs'.size = cs.size ∧ ∀ i, cs'[i]? = if o ≤ i ∧ i < o + vs.length ∧ i < cs.size then vs[i - o]? else cs[i]?
  | [], o, w, g, cs, t, h => ⟨cs, h, rfl, fun i => by rw [if_neg (by simp; omega)]⟩
  | v :: r, o, w, g, cs, t, h => by
    obtain ⟨cs', h1, h2, h3⟩ := setCells_row r (o + 1) (w.setCell ⟨g, o, none⟩ v) g (cs.set! o v) t (heap_setCell_same _ g o _ _ _ h)
    refine ⟨cs', h1, by rw [h2]; simp, fun i => ?_⟩
    rw [h3 i]
    have hs : (cs.set! o v).size = cs.size := by simp
    rw [hs]
    by_cases e1 : o + 1 ≤ i ∧ i < o + 1 + r.length ∧ i < cs.size
    · rw [if_pos e1, if_pos (by simp; omega), show i - o = (i - (o + 1)) + 1 by omega]; rfl
    · rw [if_neg e1]
      by_cases e2 : o ≤ i ∧ i < o + (v :: r).length ∧ i < cs.size
      · obtain rfl : i = o := by simp at e2; omega
        rw [if_pos e2, Nat.sub_self]
        simp [e2.2.2]
      · rw [if_neg e2]
        rw [Array.set!_eq_setIfInBounds, Array.getElem?_setIfInBounds]
        by_cases e3 : o = i
        · subst e3
          have : ¬ o < cs.size := by simp at e2; omega
          simp [this]
        · simp [e3]
theorem VB.stored {w : World} {g : Nat} {T : TypeId} {cs cs2 : Array Value} (h : VB w g T cs) (hs : cs2.size = cs.size) : VB (w.setCells g 0 cs2.toList) g T cs2 := by
  obtain ⟨cs', h1, h2, h3⟩ := setCells_row cs2.toList 0 w g _ _ h
  unfold VB
  rw [h1]
  have : cs' = cs2 := Array.ext_getElem? (fun i => by
    rw [h3 i]
    by_cases hi : i < cs.size
    · rw [if_pos (by simp; omega)]; simp
    · rw [if_neg (by omega), Array.getElem?_eq_none (by omega), Array.getElem?_eq_none (by omega)])
  rw [this]
theorem VB.load {w : World} {g : Nat} {T : TypeId} {cs : Array Value} (h : VB w g T cs) {K : Nat} {e : TypeId} (hu : (Try.prog).underlying T = some (.array K e)) (hi : ((Try.prog).info? T).map (·.size) = some cs.size) : (loadVar T ⟨g, 0, none⟩).run Try.prog w = .ok (.agg cs) w :=
  run_loadVar_row w g T T cs (0, 0) _ h hu rfl hi
theorem take_vb {ops : Array Oper} {rest : List Oper} {o : Oper} {a : Act} {w : World} {Q : Exit → Act → World → Prop} (hgd : o.guard = none) (T : TypeId) (x : Operand) (ho : o.op = .load T x) {g : Nat} {cs : Array Value} (h : VB w g T cs) {K : Nat} {e : TypeId} (hu : (Try.prog).underlying T = some (.array K e)) (hi : ((Try.prog).info? T).map (·.size) = some cs.size)
    (hx : a.eval x = .pointer (some ⟨g, 0, none⟩)) (hk : wpList Try.prog ops Q rest (a.put o.dst (.agg cs)) w) : wpList Try.prog ops Q (o :: rest) a w :=
  wpList_load_row hgd T x ho g hx T cs (0, 0) _ h hu rfl hi hk
theorem grown_setV (w : World) (g i : Nat) (v : Value) : w.grownBy (w.setCell ⟨g, i, none⟩ v) (some g) :=
  ⟨rfl, rfl, rfl, by simp [World.setCell], fun k hk hne => Below.heap_setCell _ _ _ _ (fun e => hne (by rw [e]))⟩
theorem grown_setsV (g : Nat) : ∀ (vs : List Value) (o : Nat) (w : World), w.grownBy (w.setCells g o vs) (some g)
  | [], o, w => World.grownBy.refl w _
  | v :: r, o, w => World.grownBy.trans (grown_setV w g o v) (grown_setsV g r (o + 1) _)
theorem store_vb {ops : Array Oper} {rest : List Oper} {o : Oper} {a : Act} {w : World} {Q : Exit → Act → World → Prop} (hgd : o.guard = none) (T : TypeId) (x y : Operand) (ho : o.op = .store T x y) {g : Nat} {cs : Array Value} (h : VB w g T cs) (hi : ((Try.prog).info? T).map (·.size) = some cs.size) (hx : a.eval x = .pointer (some ⟨g, 0, none⟩))
    (cs2 : Array Value) (hs : cs2.size = cs.size) (h1 : cs2.all (·.oneCell') = true) (hy : a.eval y = .agg cs2) (hk : ∀ w', VB w' g T cs2 → w.grownBy w' (some g) → wpList Try.prog ops Q rest (a.put o.dst undef) w') : wpList Try.prog ops Q (o :: rest) a w :=
  wpList_store_mid hgd T x y ho g 0 cs2 hx hy (by rw [hs]; exact h.there) (by rw [hs]; exact hi) h1 (hk _ (VB.stored h hs) (grown_setsV g _ _ _))
theorem res_vb {fn : Func} {i : Tmp} {T : TypeId} (hf : fn.results = #[.cell i T]) {tmps : Array Value} {w : World} {g : Nat} {cs : Array Value} (ht : tmps.getD i undef = .pointer (some ⟨g, 0, none⟩)) (h : VB w g T cs) {K : Nat} {e : TypeId} (hu : (Try.prog).underlying T = some (.array K e)) (hi : ((Try.prog).info? T).map (·.size) = some cs.size) :
    (results fn tmps).run Try.prog w = .ok (.agg cs) w := by
  have hl := h.load hu hi
  rw [Array.getD_eq_getD_getElem?] at ht
  simp only [results, hf]
  simp [ht, asAddr, hl]
theorem res_vb2 {fn : Func} {i u : Tmp} {T : TypeId} (hf : fn.results = #[.cell i T, .tmp u]) {tmps : Array Value} {w : World} {g : Nat} {cs : Array Value} (ht : tmps.getD i undef = .pointer (some ⟨g, 0, none⟩)) (h : VB w g T cs) {K : Nat} {e : TypeId} (hu : (Try.prog).underlying T = some (.array K e)) (hi : ((Try.prog).info? T).map (·.size) = some cs.size) :
    (results fn tmps).run Try.prog w = .ok (.tuple #[.agg cs, tmps.getD u undef]) w := by
  have hl := h.load hu hi
  rw [results_cell_tmp hf, ht]
  simp [asAddr, hl, Result.andThen]
/-! Single operations, for regions that draw their order. -/
theorem exec_indexN {T : TypeId} {N : Nat} {a : Act} {o : Oper} {p q : Operand} (ho : o.op = .indexAddr T p q) {g : Nat} (hp : a.eval p = .pointer (some ⟨g, 0, none⟩)) (hq : a.eval q = .int .i64 N)
    (hrun : ∀ w : World, (Instr.indexAt T (.pointer (some ⟨g, 0, none⟩)) (.int .i64 N)).run Try.prog w = .ok (.pointer (some ⟨g, N, none⟩)) w) (w : World) :
    (execOp a.eval o).run Try.prog w = .ok (.value (.pointer (some ⟨g, N, none⟩))) w := by
  unfold execOp
  rw [ho]
  simp only [hp, hq]
  simp [hrun, Result.andThen]
theorem exec_add1 {v : Int} (hv : 0 ≤ v ∧ v ≤ 1000000) {a : Act} {o : Oper} {p : Operand} {s : TypeId} (ho : o.op = .binOp .add 3 p (.const (.int .i64 1)) s) (hp : a.eval p = .int .i64 v) (w : World) :
    (execOp a.eval o).run Try.prog w = .ok (.value (.int .i64 (v + 1))) w := by
  have h0 : (0 : Int) ≤ v := by omega
  have h1 : v ≤ 1000000 := by omega
  unfold execOp
  rw [ho]
  simp only [hp]
  go_simp
  exact IntWalk.i64_in _ (by omega)
theorem exec_storeI {a : Act} {o : Oper} {p q : Operand} (ho : o.op = .store 3 p q) {g j : Nat} {x v : Int} (hp : a.eval p = .pointer (some ⟨g, j, none⟩)) (hq : a.eval q = .int .i64 v) {w : World} (hc : w.cell? ⟨g, j, none⟩ = some (.int .i64 x)) (hf : w.frozen? ⟨g, j, none⟩ = false) :
    (execOp a.eval o).run Try.prog w = .ok .skip (w.setCell ⟨g, j, none⟩ (.int .i64 v)) := by
  unfold execOp
  rw [ho]
  simp only [hp, hq]
  go_simp
theorem exec_loadI {a : Act} {o : Oper} {p : Operand} (ho : o.op = .load 3 p) {g j : Nat} {x : Int} (hp : a.eval p = .pointer (some ⟨g, j, none⟩)) {w : World} (hc : w.cell? ⟨g, j, none⟩ = some (.int .i64 x)) :
    (execOp a.eval o).run Try.prog w = .ok (.value (.int .i64 x)) w := by
  unfold execOp
  rw [ho]
  simp only [hp]
  go_simp
/-- A number is read out of a cell, as an operation that is carried out. -/
theorem chain_loadI {ops : Array Oper} {S I : World → Prop} {n0 : Nat} {obj : Obj} {fin : Act → (World → Prop) → Prop} (d : Tmp) {i : Nat} {r : List (Bool × Nat)} {a : Act} {o : Oper} {p : Operand} {g j : Nat} {x : Int} (ho : ops[i]? = some o) (hd : o.dst = some d) (hg : o.guard = none) (hop : o.op = .load 3 p)
    (hp : a.eval p = .pointer (some ⟨g, j, none⟩)) (hc : ∀ w, I w → w.cell? ⟨g, j, none⟩ = some (.int .i64 x)) (hS : ∀ w, I w → S w) (hn : ∀ w, I w → n0 ≤ w.heap.size) (hal : ∀ w, I w → I (w.alloc obj))
    (hr : chainA Try.prog ops S n0 obj fin r (a.put (some d) (.int .i64 x)) I) : chainA Try.prog ops S n0 obj fin ((false, i) :: r) a I :=
  ⟨o, ho, hg, fun w hI => by
    rw [exec_loadI hop hp (hc w hI)]
    exact ⟨Below.refl _ _, I, ⟨hS, hn, hal⟩, hI, hd ▸ hr⟩⟩
end Go.Proofs.Yteccbcbijfcpmaa.cards

/- Regions that draw their order and end in one store into a block that was there: what stays is all but that block. -/
namespace Go.Proofs.Yteccbcbijfcpmaa.cards
open Go.RowKit
open reg
set_option linter.unusedVariables false

/-- All but block g is as it was. -/
def GS (W : World) (g : Nat) (w' : World) : Prop := W.grownBy w' (some g)
theorem BI.gs {W w' : World} (g : Nat) (h : BI W w') : GS W g w' := ⟨Below.os h, Below.tape h, Below.output h, Below.size h, fun j hj _ => Below.block h j hj⟩
theorem clo_GS (W : World) (g : Nat) (obj : Obj) : Clo W.heap.size obj (GS W g) (BI W) := ⟨fun _ h => BI.gs g h, fun _ h => Below.size h, fun _ h => Below.alloc h (Below.size h) _⟩
theorem GS.set_ {W w' : World} {g : Nat} (h : GS W g w') (j : Nat) (v : Value) : GS W g (w'.setCell ⟨g, j, none⟩ v) := World.grownBy.trans h (grown_setV _ _ _ _)
theorem GS.box {W w' : World} {g k : Nat} {x : Cd} (h : GS W g w') (hb : Box W k x) (hk : k ≠ g) : Box w' k x := (World.grownBy.block h k hb.lt (fun e => hk (by injection e))).trans hb
theorem GS.cell {W w' : World} {g b o : Nat} {v : Value} (h : GS W g w') (hc : W.cell? ⟨b, o, none⟩ = some v) (hb : b < W.heap.size) (hk : b ≠ g) : w'.cell? ⟨b, o, none⟩ = some v := by
  have e := World.grownBy.block h b hb (fun e => hk (by injection e))
  unfold World.cell? at hc ⊢
  rw [e]; exact hc
section
variable {ops : Array Oper} {Q : Exit → Act → World → Prop} {n0 : Nat} {obj : Obj} {fin : Act → (World → Prop) → Prop} {S : World → Prop}
theorem chain_callG (d : Tmp) {i : Nat} {r : List (Bool × Nat)} {a : Act} {W : World} {g : Nat} {f : FuncId} {args : Array Value} {v : Value} {o : Oper} (ho : ops[i]? = some o) (hd : o.dst = some d) (hg : o.guard = none)
    (he : ∀ w, (execOp a.eval o).run Try.prog w = .ok (.enter f args) w) (h : ∀ w, BI W w → Calls Try.prog f args w (fun e w' => e = .returned v ∧ Below w.heap.size w w'))
    (hr : chainA Try.prog ops (GS W g) W.heap.size obj fin r (a.put (some d) v) (BI W)) : chainA Try.prog ops (GS W g) W.heap.size obj fin ((false, i) :: r) a (BI W) :=
  ⟨o, ho, hg, fun w hI => by
    rw [he]
    exact (h w hI).mono fun e w' ⟨h1, h2⟩ => ⟨v, h1, h2, BI W, clo_GS W g obj, BI.next hI h2, hd ▸ hr⟩⟩
/-- A card is read out of a row. -/
theorem chain_card (d : Tmp) {i : Nat} {r : List (Bool × Nat)} {a : Act} {I : World → Prop} {o : Oper} (ho : ops[i]? = some o) (hd : o.dst = some d) (hg : o.guard = none)
    (x : Operand) (hx : o.op = .load 52 x) {g off : Nat} (hp : a.eval x = .pointer (some ⟨g, off, none⟩)) (c : Cd)
    (hS : ∀ w, S w → w.cell? ⟨g, off, none⟩ = some (.int .i64 c.a) ∧ w.cell? ⟨g, off + 1, none⟩ = some (.int .i64 c.b) ∧ w.cell? ⟨g, off + 2, none⟩ = some (.int .i64 c.c) ∧ w.cell? ⟨g, off + 3, none⟩ = some (.int .i64 c.d))
    (hr : chainA Try.prog ops S n0 obj fin r (a.put (some d) c.val) I) : chainA Try.prog ops S n0 obj fin ((true, i) :: r) a I :=
  ⟨o, c.val, ho, yieldsIf_load_mid (wanted_of hg) 52 x hx g off hp c.cells _ (fun w hw j v hv => by
    obtain ⟨h0, h1, h2, h3⟩ := hS w hw
    match j, hv with
    | 0, hv => simp [Cd.cells] at hv; rw [← hv]; exact h0
    | 1, hv => simp [Cd.cells] at hv; rw [← hv]; exact h1
    | 2, hv => simp [Cd.cells] at hv; rw [← hv]; exact h2
    | 3, hv => simp [Cd.cells] at hv; rw [← hv]; exact h3
    | n + 4, hv => simp [Cd.cells] at hv) Try.underlying52 rfl (by kernel_rfl), hd ▸ hr⟩
/-- THE LAW of a region that ends in a store of one cell into block g. -/
theorem region_storeG {id : Nat} {a : Act} {W : World} (g : Nat) (r : List (Bool × Nat)) (s : Nat) (os : Oper)
    (hok : chainOkS .any ops s r (Array.replicate ops.size false) = true) (hlen : ops.size = r.length + 1) (hsel : Region.noSelect ops = true)
    (hs0 : ops[s]? = some os) (hgs : os.guard = none) (hds : os.dst = none)
    (h : chainA Try.prog ops (GS W g) W.heap.size zero.obj (atEndP fun a w => ∃ w', (execOp a.eval os).run Try.prog w = .ok .skip w' ∧ GS W g w' ∧ Q .normal a w') r a (BI W)) : (Code.region id ops true).wp Try.prog Q a W :=
  region_store r s os W.heap.size zero.obj (GS W g) (BI W) (by kernel_rfl) hok hlen hsel hs0 hgs hds (fun _ h => BI.gs g h) (BI.start W) h
theorem exec_indexS {k n b ad cp : Nat} (hk : k < n) {a : Act} {o : Oper} {p q : Operand} (ho : o.op = .indexAddr 22 p q) (hp : a.eval p = .slice (some ⟨b, ad, none⟩) n cp) (hq : a.eval q = .int .i64 k) (w : World) :
    (execOp a.eval o).run Try.prog w = .ok (.value (.pointer (some ⟨b, ad + k * 4, none⟩))) w := by
  have h0 : (0 : Int) ≤ (k : Int) := by omega
  have h1 : (k : Int) < (n : Int) := by omega
  unfold execOp
  rw [ho]
  simp only [hp, hq]
  go_simp
theorem exec_index3 {N : Nat} (hN : N < 3) {a : Act} {o : Oper} {p q : Operand} (ho : o.op = .indexAddr 40 p q) {g : Nat} (hp : a.eval p = .pointer (some ⟨g, 0, none⟩)) (hq : a.eval q = .int .i64 N) (w : World) :
    (execOp a.eval o).run Try.prog w = .ok (.value (.pointer (some ⟨g, N, none⟩))) w := by
  have h0 : (0 : Int) ≤ (N : Int) := by omega
  have h1 : (N : Int) < 3 := by omega
  unfold execOp
  rw [ho]
  simp only [hp, hq]
  go_simp
/-- THE LAW of a region with a new block of an array of type T, into which the last operation stores. -/
theorem region_vb {id : Nat} {a : Act} {W : World} (T : TypeId) (cs0 : Array Value) (r : List (Bool × Nat)) (i0 s d0 : Nat) (ts : List (Nat × Tmp × Tmp)) (oa os : Oper) (t : Tmp)
    (hi : ((Try.prog).info? T).map (·.size) = some cs0.size) (hal : ∀ (w : World), (Instr.alloc T true (.tuple #[])).run Try.prog w = .ok (ptr w.heap.size) (w.alloc (.cells cs0 T)))
    (hok : chainOk .any ops oa i0 s ts r (Array.replicate ops.size false) = true) (hlen : ops.size = r.length + ts.length + 1 + 1) (has : assigns ops ts = true) (hsel : Region.noSelect ops = true)
    (ha0 : ops[i0]? = some oa) (hga : oa.guard = none) (hd : oa.dst = some d0) (hoa : oa.op = .alloc T)
    (hs0 : ops[s]? = some os) (hgs : os.guard = none) (hds : os.dst = none) (hos : os.op = .store T (.tmp d0) (.tmp t)) (hne : t ≠ d0) (hsz : d0 < a.tmps.size)
    (h : chainA Try.prog ops (BI W) W.heap.size (.cells cs0 T) (atEnd W.heap.size (.cells cs0 T) fun b w g => b.tmps.size = a.tmps.size ∧ ∃ cs : Array Value, b.eval (.tmp t) = .agg cs ∧ cs.size = cs0.size ∧ cs.all (·.oneCell') = true ∧ ∀ w', Hid (VB w' g T cs) → Below W.heap.size W w' → ∃ a', runsTo ts (b.put (some d0) (ptr g)) a' ∧ Q .normal a' w') r a (BI W)) :
    (Code.region id ops true).wp Try.prog Q a W := by
  refine region_alloc r i0 s d0 ts oa os (.cells cs0 T) [] W.heap.size (BI W) (BI W) T (.tmp d0) (.tmp t) (by kernel_rfl) hok hlen has hsel ha0 hga hd ?_ hs0 hgs hds hos (clo_BI W _) (BI.start W) ?_
  · intro a w
    unfold execOp
    rw [hoa]
    simp [hal w, Result.andThen]
  · refine chainA_mono ?_ r a _ (fun _ h => h) h
    intro b I hIS hh w g hI0 hg hb
    obtain ⟨hsb, cs, hm, h1, h2, hk⟩ := hh w g hI0 hg hb
    have hI := hIS w hI0
    have hB : VB w g T cs0 := hb
    have hw : BI W (w.setCells g 0 cs.toList) := Below.grown hI (grown_setsV g _ _ _) (Below.size hI) (fun k hk => by injection hk with hk; omega)
    refine ⟨cs, ?_, ?_, by rw [h1]; exact hB.there, by rw [h1]; exact hi, h2, hw, hk _ (Lib.hid (VB.stored hB h1)) hw⟩
    · show (b.tmps.setIfInBounds d0 (ptr g)).getD d0 undef = ptr g
      simp [hsb, hsz]
    · rw [Act.eval_put (by intro d hd he; cases hd; cases he; exact hne rfl)]; exact hm
end
end Go.Proofs.Yteccbcbijfcpmaa.cards

/- A region that draws its order, with TWO new blocks among its operations: one walk serves all its orders. What stores stand at its end, one behind the other. -/
namespace Go.Proofs.Yteccbcbijfcpmaa.cards
open Go.RowKit
open reg
set_option linter.unusedVariables false

section
variable {P : Program} {md : Region.Mode} {ops : Array Oper} {Q : Exit → Act → World → Prop}

def putO (a : Act) (d : Tmp) : Option Nat → Act
  | none => a
  | some g => a.put (some d) (ptr g)
/-- The activation, whichever of the two blocks are made. -/
def putT (a : Act) (d0 d1 : Tmp) (m0 m1 : Option Nat) : Act := putO (putO a d0 m0) d1 m1
theorem putO_put {a : Act} {d : Tmp} {m : Option Nat} {y : Option Tmp} {v : Value} (h : y ≠ some d) : (putO a d m).put y v = putO (a.put y v) d m := by
  cases m with
  | none => rfl
  | some g => exact Act.put_comm a (x := some d) (y := y) (ptr g) v (fun e he => by cases he; exact h)
theorem putT_put {a : Act} {d0 d1 : Tmp} {m0 m1 : Option Nat} {y : Option Tmp} {v : Value} (h0 : y ≠ some d0) (h1 : y ≠ some d1) : (putT a d0 d1 m0 m1).put y v = putT (a.put y v) d0 d1 m0 m1 := by
  unfold putT
  rw [putO_put h1, putO_put h0]
theorem exec_putO {o : Oper} (hs : ∀ cs b, o.op ≠ .select cs b) {a : Act} {d : Tmp} {m : Option Nat} (h : d ∉ o.looksAt ops) : execOp (putO a d m).eval o = execOp a.eval o := by
  cases m with
  | none => rfl
  | some g => exact execOp_put (ops := ops) o hs a (some d) (ptr g) (fun e he => by cases he; exact h)
theorem exec_putT {o : Oper} (hs : ∀ cs b, o.op ≠ .select cs b) {a : Act} {d0 d1 : Tmp} {m0 m1 : Option Nat} (h0 : d0 ∉ o.looksAt ops) (h1 : d1 ∉ o.looksAt ops) : execOp (putT a d0 d1 m0 m1).eval o = execOp a.eval o := by
  unfold putT
  rw [exec_putO hs h1, exec_putO hs h0]
theorem wanted_putO (o : Oper) {a : Act} {d : Tmp} {m : Option Nat} (h : d ∉ o.looksAt ops) : Region.wanted o (yielded ops (putO a d m).tmps) = Region.wanted o (yielded ops a.tmps) := by
  cases m with
  | none => rfl
  | some g => exact wanted_put o a (some d) (ptr g) (fun e he => by cases he; exact h)
theorem wanted_putT (o : Oper) {a : Act} {d0 d1 : Tmp} {m0 m1 : Option Nat} (h0 : d0 ∉ o.looksAt ops) (h1 : d1 ∉ o.looksAt ops) : Region.wanted o (yielded ops (putT a d0 d1 m0 m1).tmps) = Region.wanted o (yielded ops a.tmps) := by
  unfold putT
  rw [wanted_putO o h1, wanted_putO o h0]
/-- An operation that looks at neither slot and sets neither. -/
def farAt (ops : Array Oper) (d0 d1 : Tmp) (i : Nat) : Bool := match ops[i]? with
  | some o => !(o.looksAt ops).contains d0 && !(o.looksAt ops).contains d1 && o.dst != some d0 && o.dst != some d1
  | none => false
theorem farAt_spec {d0 d1 : Tmp} {i : Nat} {o : Oper} (h : farAt ops d0 d1 i = true) (ho : ops[i]? = some o) : d0 ∉ o.looksAt ops ∧ d1 ∉ o.looksAt ops ∧ o.dst ≠ some d0 ∧ o.dst ≠ some d1 := by
  unfold farAt at h
  rw [ho] at h
  simp only [Bool.and_eq_true, Bool.not_eq_true', bne_iff_ne] at h
  obtain ⟨⟨⟨h1, h2⟩, h3⟩, h4⟩ := h
  exact ⟨(fun hm => by rw [List.contains_iff_mem.2 hm] at h1; cases h1), (fun hm => by rw [List.contains_iff_mem.2 hm] at h2; cases h2), h3, h4⟩
def seqS (md : Region.Mode) (ops : Array Oper) : List Nat → Array Bool → Bool
  | [], l => Region.ready md ops l == []
  | j :: r, l => (Region.ready md ops l == [j]) && seqS md ops r (l.setIfInBounds j true)
/-- What comes at the end, one behind the other. -/
def runsS (P : Program) (ops : Array Oper) (S : World → Prop) (K : Act → World → Prop) : List Nat → Act → World → Prop
  | [], a, w => K a w
  | j :: r, a, w => ∃ o w' v, ops[j]? = some o ∧ o.guard = none ∧ ((execOp a.eval o).run P w = .ok (.value v) w' ∨ ((execOp a.eval o).run P w = .ok .skip w' ∧ v = undef)) ∧ S w' ∧ runsS P ops S K r (a.put o.dst v) w'
theorem seq_of {S : World → Prop} : ∀ (st : List Nat) (l : Array Bool) (a : Act) (w : World), seqS md ops st l = true → S w → runsS P ops S (Q .normal) st a w → wpAnyH P md ops Q S st.length l a w
  | [], l, a, w, hok, hS, h => wpAnyH_done (by simpa [seqS] using hok) h 0
  | j :: r, l, a, w, hok, hS, h => by
    simp only [seqS, Bool.and_eq_true, beq_iff_eq] at hok
    obtain ⟨o, w', v, ho, hg, hrun, hS', hr⟩ := h
    refine wpAnyH_all hok.1 (by simp) fun i hi => ?_
    obtain rfl : i = j := by simpa using hi
    unfold wpOp
    simp only [ho, wanted_of hg, if_true]
    refine .inl ?_
    unfold Oper.wp
    rcases hrun with hrun | ⟨hrun, rfl⟩
    · rw [hrun]; exact ⟨hS', seq_of r _ _ _ hok.2 hS' hr⟩
    · rw [hrun]; exact ⟨hS', seq_of r _ _ _ hok.2 hS' hr⟩
def okT (md : Region.Mode) (ops : Array Oper) (i0 i1 : Nat) (d0 d1 : Tmp) (st : List Nat) : Nat → Bool → Bool → List (Bool × Nat) → Array Bool → Bool
  | 0, p0, p1, [], l => !p0 && !p1 && seqS md ops st l
  | 0, _, _, _ :: _, _ => false
  | n + 1, p0, p1, [], l => (Region.ready md ops l != []) && (Region.ready md ops l).all (fun j => (p0 && j == i0) || (p1 && j == i1)) && (!p0 || okT md ops i0 i1 d0 d1 st n false p1 [] (l.setIfInBounds i0 true)) && (!p1 || okT md ops i0 i1 d0 d1 st n p0 false [] (l.setIfInBounds i1 true))
  | n + 1, p0, p1, (true, i) :: r, l => Region.free md ops l i && (Region.ready md ops l).contains i && farAt ops d0 d1 i && okT md ops i0 i1 d0 d1 st n p0 p1 r (l.setIfInBounds i true)
  | n + 1, p0, p1, (false, i) :: r, l => (Region.ready md ops l != []) && (Region.ready md ops l).all (fun j => (j == i) || ((p0 && j == i0) || (p1 && j == i1))) && farAt ops d0 d1 i && okT md ops i0 i1 d0 d1 st n p0 p1 r (l.setIfInBounds i true) && (!p0 || okT md ops i0 i1 d0 d1 st n false p1 ((false, i) :: r) (l.setIfInBounds i0 true)) && (!p1 || okT md ops i0 i1 d0 d1 st n p0 false ((false, i) :: r) (l.setIfInBounds i1 true))
/-- The blocks that are made. -/
def madeO (n0 : Nat) (obj : Obj) (w : World) : Option Nat → Prop
  | none => True
  | some g => n0 ≤ g ∧ w.heap[g]? = some obj
theorem madeO_below {n0 : Nat} {obj : Obj} {w w1 : World} {m : Option Nat} (h : madeO n0 obj w m) (b : Below w.heap.size w w1) : madeO n0 obj w1 m := by
  cases m with
  | none => trivial
  | some g => exact ⟨h.1, (b.block g (Array.getElem?_eq_some_iff.1 h.2).1).trans h.2⟩
def apartO : Option Nat → Option Nat → Prop
  | some g, some k => g ≠ k
  | _, _ => True
/-- What is known holds also with each of the new blocks. -/
structure Clo2 (n0 : Nat) (ob0 ob1 : Obj) (S I : World → Prop) : Prop where
  held : ∀ w, I w → S w
  big : ∀ w, I w → n0 ≤ w.heap.size
  grow0 : ∀ w, I w → I (w.alloc ob0)
  grow1 : ∀ w, I w → I (w.alloc ob1)
def chainT (P : Program) (ops : Array Oper) (S : World → Prop) (n0 : Nat) (ob0 ob1 : Obj) (fin : Act → (World → Prop) → Prop) : List (Bool × Nat) → Act → (World → Prop) → Prop
  | [], a, I => fin a I
  | (true, i) :: r, a, I => ∃ o v, ops[i]? = some o ∧ YieldsIf P ops S o v a ∧ chainT P ops S n0 ob0 ob1 fin r (a.put o.dst v) I
  | (false, i) :: r, a, I => ∃ o, ops[i]? = some o ∧ o.guard = none ∧ ∀ w, I w → Upon P (fun v w' => Below w.heap.size w w' ∧ ∃ I', Clo2 n0 ob0 ob1 S I' ∧ I' w' ∧ chainT P ops S n0 ob0 ob1 fin r (a.put o.dst v) I') ((execOp a.eval o).run P w)

/-- The end: both blocks are made, the stores are to come. -/
def finT (P : Program) (ops : Array Oper) (S : World → Prop) (Q : Exit → Act → World → Prop) (n0 : Nat) (ob0 ob1 : Obj) (st : List Nat) (d0 d1 : Tmp) (b : Act) (I : World → Prop) : Prop :=
  ∀ w g0 g1, I w → n0 ≤ g0 → n0 ≤ g1 → g0 ≠ g1 → w.heap[g0]? = some ob0 → w.heap[g1]? = some ob1 → runsS P ops S (Q .normal) st ((b.put (some d0) (ptr g0)).put (some d1) (ptr g1)) w
variable {S : World → Prop} {n0 : Nat} {ob0 ob1 : Obj} {o0 o1 : Oper} {i0 i1 : Nat} {d0 d1 : Tmp} {st : List Nat}

theorem two_of (hsel : Region.noSelect ops = true) (hQ : ∀ c (d : Option Tmp) v a w, Q (.panic c) (a.put d v) w → Q (.panic c) a w) (hdd : d0 ≠ d1)
    (h0 : ops[i0]? = some o0) (hd0 : o0.dst = some d0) (hg0 : o0.guard = none) (hal0 : ∀ (a : Act) (w : World), (execOp a.eval o0).run P w = .ok (.value (ptr w.heap.size)) (w.alloc ob0))
    (h1 : ops[i1]? = some o1) (hd1 : o1.dst = some d1) (hg1 : o1.guard = none) (hal1 : ∀ (a : Act) (w : World), (execOp a.eval o1).run P w = .ok (.value (ptr w.heap.size)) (w.alloc ob1)) :
    ∀ (n : Nat) (r : List (Bool × Nat)) (m0 m1 : Option Nat) (l : Array Bool) (a : Act) (I : World → Prop) (w : World),
      okT md ops i0 i1 d0 d1 st n m0.isNone m1.isNone r l = true → Clo2 n0 ob0 ob1 S I → I w → madeO n0 ob0 w m0 → madeO n0 ob1 w m1 → apartO m0 m1 →
      chainT P ops S n0 ob0 ob1 (finT P ops S Q n0 ob0 ob1 st d0 d1) r a I →
      wpAnyH P md ops Q S (n + st.length) l (putT a d0 d1 m0 m1) w := by
  have step0 : ∀ (n : Nat) (r : List (Bool × Nat)) (m1 : Option Nat) (l : Array Bool) (a : Act) (I : World → Prop) (w : World), Clo2 n0 ob0 ob1 S I → I w → madeO n0 ob1 w m1 →
      (∀ w' m0, I w' → madeO n0 ob0 w' (some m0) → madeO n0 ob1 w' m1 → apartO (some m0) m1 → wpAnyH P md ops Q S (n + st.length) (l.setIfInBounds i0 true) (putT a d0 d1 (some m0) m1) w') →
      wpOp P ops Q i0 (fun a' w' => S w' ∧ wpAnyH P md ops Q S (n + st.length) (l.setIfInBounds i0 true) a' w') (putT a d0 d1 none m1) w := by
    intro n r m1 l a I w hc hI hm1 hk
    refine wpOp_upon (R := fun v w' => v = ptr w.heap.size ∧ w' = w.alloc ob0) h0 hg0 (by rw [hal0]; exact ⟨rfl, rfl⟩) ?_
    rintro v w' ⟨rfl, rfl⟩
    have hb : Below w.heap.size w (w.alloc ob0) := (Below.refl _ _).alloc (Nat.le_refl _) _
    have e : (putT a d0 d1 none m1).put o0.dst (ptr w.heap.size) = putT a d0 d1 (some w.heap.size) m1 := by
      rw [hd0]
      unfold putT
      rw [putO_put (by intro e; injection e with e; exact hdd e)]
      rfl
    rw [e]
    refine ⟨hc.held _ (hc.grow0 _ hI), hk _ _ (hc.grow0 _ hI) ⟨hc.big _ hI, heap_alloc_new _ _⟩ (madeO_below hm1 hb) ?_⟩
    cases m1 with
    | none => trivial
    | some g => exact fun e => by have := (Array.getElem?_eq_some_iff.1 hm1.2).1; omega
  have step1 : ∀ (n : Nat) (r : List (Bool × Nat)) (m0 : Option Nat) (l : Array Bool) (a : Act) (I : World → Prop) (w : World), Clo2 n0 ob0 ob1 S I → I w → madeO n0 ob0 w m0 →
      (∀ w' m1, I w' → madeO n0 ob0 w' m0 → madeO n0 ob1 w' (some m1) → apartO m0 (some m1) → wpAnyH P md ops Q S (n + st.length) (l.setIfInBounds i1 true) (putT a d0 d1 m0 (some m1)) w') →
      wpOp P ops Q i1 (fun a' w' => S w' ∧ wpAnyH P md ops Q S (n + st.length) (l.setIfInBounds i1 true) a' w') (putT a d0 d1 m0 none) w := by
    intro n r m0 l a I w hc hI hm0 hk
    refine wpOp_upon (R := fun v w' => v = ptr w.heap.size ∧ w' = w.alloc ob1) h1 hg1 (by rw [hal1]; exact ⟨rfl, rfl⟩) ?_
    rintro v w' ⟨rfl, rfl⟩
    have hb : Below w.heap.size w (w.alloc ob1) := (Below.refl _ _).alloc (Nat.le_refl _) _
    have e : (putT a d0 d1 m0 none).put o1.dst (ptr w.heap.size) = putT a d0 d1 m0 (some w.heap.size) := by
      rw [hd1]; rfl
    rw [e]
    refine ⟨hc.held _ (hc.grow1 _ hI), hk _ _ (hc.grow1 _ hI) (madeO_below hm0 hb) ⟨hc.big _ hI, heap_alloc_new _ _⟩ ?_⟩
    cases m0 with
    | none => trivial
    | some g => exact fun e => by have := (Array.getElem?_eq_some_iff.1 hm0.2).1; omega
  intro n
  induction n with
  | zero =>
    intro r m0 m1 l a I w hok hc hI hm0 hm1 hap h
    cases r with
    | cons x r => simp [okT] at hok
    | nil =>
      cases m0 with
      | none => simp [okT] at hok
      | some g0 =>
        cases m1 with
        | none => simp [okT] at hok
        | some g1 =>
          simp only [okT, Option.isNone_some, Bool.not_false, Bool.true_and] at hok
          rw [Nat.zero_add]
          exact seq_of st l _ w hok (hc.held _ hI) (h w g0 g1 hI hm0.1 hm1.1 hap hm0.2 hm1.2)
  | succ n ih =>
    intro r m0 m1 l a I w hok hc hI hm0 hm1 hap h
    rw [show n + 1 + st.length = (n + st.length) + 1 by omega]
    cases r with
    | nil =>
      simp only [okT, Bool.and_eq_true, bne_iff_ne, List.all_eq_true] at hok
      obtain ⟨⟨⟨k1, k2⟩, k3⟩, k4⟩ := hok
      refine wpAnyH_all rfl k1 fun j hj => ?_
      have hj := k2 j hj
      simp only [Bool.or_eq_true, Bool.and_eq_true, beq_iff_eq] at hj
      rcases hj with ⟨hp, rfl⟩ | ⟨hp, rfl⟩
      · cases m0 with
        | some g => simp at hp
        | none =>
          simp only [Option.isNone_none, Bool.not_true, Bool.false_or] at k3
          exact step0 n [] m1 l a I w hc hI hm1 (fun w' g hI' a1 a2 a3 => ih [] (some g) m1 _ a I w' (by simpa using k3) hc hI' a1 a2 a3 h)
      · cases m1 with
        | some g => simp at hp
        | none =>
          simp only [Option.isNone_none, Bool.not_true, Bool.false_or] at k4
          exact step1 n [] m0 l a I w hc hI hm0 (fun w' g hI' a1 a2 a3 => ih [] m0 (some g) _ a I w' (by simpa using k4) hc hI' a1 a2 a3 h)
    | cons x r =>
      obtain ⟨b, i⟩ := x
      cases b with
      | true =>
        simp only [okT, Bool.and_eq_true] at hok
        obtain ⟨⟨⟨k1, k2⟩, k3⟩, k4⟩ := hok
        obtain ⟨o, v, ho, hy, hr⟩ := h
        obtain ⟨f0, f1, f2, f3⟩ := farAt_spec k3 ho
        refine wpAnyH_take (v := v) ho hsel k1 k2 (fun c a w => hQ c _ _ a w) (hy.of_same (exec_putT (Region.noSelect_spec hsel i o · · ho) f0 f1) (wanted_putT o f0 f1)) (hc.held _ hI) ?_
        rw [putT_put f2 f3]
        exact ih r m0 m1 _ _ I w k4 hc hI hm0 hm1 hap hr
      | false =>
        simp only [okT, Bool.and_eq_true, bne_iff_ne, List.all_eq_true] at hok
        obtain ⟨⟨⟨⟨⟨k1, k2⟩, k3⟩, k4⟩, k5⟩, k6⟩ := hok
        have h' := h
        obtain ⟨o, ho, hgd, hr⟩ := h
        obtain ⟨f0, f1, f2, f3⟩ := farAt_spec k3 ho
        refine wpAnyH_all rfl k1 fun j hj => ?_
        have hj := k2 j hj
        simp only [Bool.or_eq_true, Bool.and_eq_true, beq_iff_eq] at hj
        rcases hj with rfl | ⟨hp, rfl⟩ | ⟨hp, rfl⟩
        · refine wpOp_upon (R := fun v w' => Below w.heap.size w w' ∧ ∃ I', Clo2 n0 ob0 ob1 S I' ∧ I' w' ∧ chainT P ops S n0 ob0 ob1 (finT P ops S Q n0 ob0 ob1 st d0 d1) r (a.put o.dst v) I') ho hgd (by rw [exec_putT (Region.noSelect_spec hsel _ o · · ho) f0 f1]; exact hr w hI) fun v w' ⟨hbw, I', hc', hI', hr'⟩ => ?_
          refine ⟨hc'.held _ hI', ?_⟩
          rw [putT_put f2 f3]
          exact ih r m0 m1 _ _ I' w' k4 hc' hI' (madeO_below hm0 hbw) (madeO_below hm1 hbw) hap hr'
        · cases m0 with
          | some g => simp at hp
          | none =>
            simp only [Option.isNone_none, Bool.not_true, Bool.false_or] at k5
            exact step0 n ((false, i) :: r) m1 l a I w hc hI hm1 (fun w' g hI' a1 a2 a3 => ih ((false, i) :: r) (some g) m1 _ a I w' (by simpa using k5) hc hI' a1 a2 a3 h')
        · cases m1 with
          | some g => simp at hp
          | none =>
            simp only [Option.isNone_none, Bool.not_true, Bool.false_or] at k6
            exact step1 n ((false, i) :: r) m0 l a I w hc hI hm0 (fun w' g hI' a1 a2 a3 => ih ((false, i) :: r) m0 (some g) _ a I w' (by simpa using k6) hc hI' a1 a2 a3 h')
/-- THE LAW of a region with two new blocks. -/
theorem region_two {id : Nat} {a : Act} {w : World} (r : List (Bool × Nat)) (i0 i1 d0 d1 : Nat) (st : List Nat) (o0 o1 : Oper) (ob0 ob1 : Obj) (n0 : Nat) (S I : World → Prop)
    (hm : P.follows .mixedOrders = true) (hok : okT .any ops i0 i1 d0 d1 st (r.length + 2) true true r (Array.replicate ops.size false) = true) (hlen : ops.size = r.length + 2 + st.length) (hsel : Region.noSelect ops = true) (hdd : d0 ≠ d1)
    (h0 : ops[i0]? = some o0) (hd0 : o0.dst = some d0) (hg0 : o0.guard = none) (hal0 : ∀ (a : Act) (w : World), (execOp a.eval o0).run P w = .ok (.value (ptr w.heap.size)) (w.alloc ob0))
    (h1 : ops[i1]? = some o1) (hd1 : o1.dst = some d1) (hg1 : o1.guard = none) (hal1 : ∀ (a : Act) (w : World), (execOp a.eval o1).run P w = .ok (.value (ptr w.heap.size)) (w.alloc ob1))
    (hc : Clo2 n0 ob0 ob1 S I) (hI : I w.drew)
    (h : chainT P ops S n0 ob0 ob1 (finT P ops S Q n0 ob0 ob1 st d0 d1) r a I) :
    (Code.region id ops true).wp P Q a w := by
  refine wp_region_noPanic (wp_region_held hm (S := S) ?_)
  have k := two_of (md := .any) (Q := NoPanic Q) (st := st) (i0 := i0) (i1 := i1) hsel (fun _ _ _ _ _ h => h) hdd h0 hd0 hg0 hal0 h1 hd1 hg1 hal1 (r.length + 2) r none none _ a I _ hok hc hI trivial trivial trivial ?_
  · rw [← hlen] at k; exact k
  · have mono : ∀ (st : List Nat) (a : Act) (w : World), runsS P ops S (Q .normal) st a w → runsS P ops S (NoPanic Q .normal) st a w := by
      intro st
      induction st with
      | nil => intro a w h; exact NoPanic.normal h
      | cons j st ih => rintro a w ⟨o, w', v, e1, e2, e3, e4, e5⟩; exact ⟨o, w', v, e1, e2, e3, e4, ih _ _ e5⟩
    have monoC : ∀ (r : List (Bool × Nat)) (a : Act) (I : World → Prop), chainT P ops S n0 ob0 ob1 (finT P ops S Q n0 ob0 ob1 st d0 d1) r a I →
        chainT P ops S n0 ob0 ob1 (finT P ops S (NoPanic Q) n0 ob0 ob1 st d0 d1) r a I := by
      intro r
      induction r with
      | nil => intro a I h w g0 g1 a1 a2 a3 a4 a5 a6; exact mono _ _ _ (h w g0 g1 a1 a2 a3 a4 a5 a6)
      | cons x r ih =>
        obtain ⟨b, i⟩ := x
        cases b with
        | true => rintro a I ⟨o, v, ho, hy, hr⟩; exact ⟨o, v, ho, hy, ih _ _ hr⟩
        | false =>
          rintro a I ⟨o, ho, hg, hr⟩
          refine ⟨o, ho, hg, fun w hw => ?_⟩
          have h := hr w hw
          generalize (execOp a.eval o).run P w = q at h ⊢
          cases q with
          | ok n w' =>
            cases n <;> simp only [Upon] at h ⊢
            case value v => obtain ⟨hb, I', c, j1, j2⟩ := h; exact ⟨hb, I', c, j1, ih _ _ j2⟩
            case enter f args => exact h.mono fun e w'' ⟨v, he, hb, I', c, j1, j2⟩ => ⟨v, he, hb, I', c, j1, ih _ _ j2⟩
          | halt x w' => simp only [Upon] at h
    exact monoC r a I h
end
end Go.Proofs.Yteccbcbijfcpmaa.cards

/- A region that draws its order: operations that only read, then some that make memory in ANY order (each by its own word on what it makes), then the rest, one behind the other. ONE walk serves all orders. -/
namespace Go.Proofs.Yteccbcbijfcpmaa.cards
open Go.RowKit
open reg
set_option linter.unusedVariables false

section
variable {P : Program} {md : Region.Mode} {ops : Array Oper} {Q : Exit → Act → World → Prop} {S : World → Prop}
theorem Upon.imp {R R2 : Value → World → Prop} {q : Result Next} (h : Upon P R q) (hi : ∀ v w, R v w → R2 v w) : Upon P R2 q := by
  cases q with
  | ok n w' =>
    cases n <;> simp only [Upon] at h ⊢
    case value v => exact hi _ _ h
    case enter f args => exact h.mono fun e w'' ⟨v, he, hr⟩ => ⟨v, he, hi _ _ hr⟩
  | halt x w' => simp only [Upon] at h
theorem Upon.enter {R : Value → World → Prop} {q : Result Next} {f : FuncId} {args : Array Value} {w : World} (h : q = .ok (.enter f args) w) (hc : Calls P f args w (fun e w' => ∃ v, e = .returned v ∧ R v w')) : Upon P R q := by subst h; exact hc
def okJ (md : Region.Mode) (ops : Array Oper) (st : List Nat) : Nat → List Nat → Array Bool → Bool
  | 0, rem, l => (rem == []) && seqS md ops st l
  | n + 1, rem, l => (Region.ready md ops l != []) && (Region.ready md ops l).all (fun j => rem.contains j && okJ md ops st n (rem.erase j) (l.setIfInBounds j true))
def okPJ (md : Region.Mode) (ops : Array Oper) (js st : List Nat) : List Nat → Array Bool → Bool
  | [], l => okJ md ops st js.length js l
  | i :: r, l => Region.free md ops l i && (Region.ready md ops l).contains i && okPJ md ops js st r (l.setIfInBounds i true)
theorem jobs_of {st : List Nat} {J : List Nat → Act → World → Prop} (hS : ∀ rem a w, J rem a w → S w)
    (hs : ∀ rem j a w, j ∈ rem → J rem a w → ∃ o, ops[j]? = some o ∧ o.guard = none ∧ Upon P (fun v w' => J (rem.erase j) (a.put o.dst v) w') ((execOp a.eval o).run P w))
    (hK : ∀ a w, J [] a w → runsS P ops S (Q .normal) st a w) :
    ∀ (n : Nat) (rem : List Nat) (l : Array Bool) (a : Act) (w : World), okJ md ops st n rem l = true → J rem a w → wpAnyH P md ops Q S (n + st.length) l a w
  | 0, rem, l, a, w, hok, h => by
    simp only [okJ, Bool.and_eq_true, beq_iff_eq] at hok
    obtain ⟨h1, h2⟩ := hok
    subst h1
    rw [Nat.zero_add]
    exact seq_of st l a w h2 (hS _ _ _ h) (hK a w h)
  | n + 1, rem, l, a, w, hok, h => by
    simp only [okJ, Bool.and_eq_true, bne_iff_ne, List.all_eq_true] at hok
    obtain ⟨h1, h2⟩ := hok
    rw [show n + 1 + st.length = (n + st.length) + 1 by omega]
    refine wpAnyH_all rfl h1 fun j hj => ?_
    obtain ⟨h3, h4⟩ := h2 j hj
    obtain ⟨o, ho, hg, hr⟩ := hs rem j a w (List.contains_iff_mem.1 h3) h
    exact wpOp_upon ho hg hr fun v w' hJ => ⟨hS _ _ _ hJ, jobs_of hS hs hK n _ _ _ _ h4 hJ⟩
/-- Operations that only read, each taken at once. -/
def pureJ (P : Program) (ops : Array Oper) (S : World → Prop) (K : Act → Prop) : List Nat → Act → Prop
  | [], a => K a
  | i :: r, a => ∃ o v, ops[i]? = some o ∧ YieldsIf P ops S o v a ∧ pureJ P ops S K r (a.put o.dst v)
theorem pures_of {js st : List Nat} {I : World → Prop} (hsel : Region.noSelect ops = true) (hQ : ∀ c (d : Option Tmp) v a w, Q (.panic c) (a.put d v) w → Q (.panic c) a w) (hc : ∀ w, I w → S w) {K : Act → Prop}
    (hK : ∀ a w l, K a → I w → okJ md ops st js.length js l = true → wpAnyH P md ops Q S (js.length + st.length) l a w) :
    ∀ (r : List Nat) (l : Array Bool) (a : Act) (w : World), okPJ md ops js st r l = true → I w → pureJ P ops S K r a → wpAnyH P md ops Q S (r.length + (js.length + st.length)) l a w
  | [], l, a, w, hok, hI, h => by
    rw [List.length_nil, Nat.zero_add]
    exact hK a w l h hI hok
  | i :: r, l, a, w, hok, hI, h => by
    simp only [okPJ, Bool.and_eq_true] at hok
    obtain ⟨⟨h1, h2⟩, h7⟩ := hok
    obtain ⟨o, v, ho, hy, hr⟩ := h
    rw [List.length_cons, show r.length + 1 + (js.length + st.length) = (r.length + (js.length + st.length)) + 1 by omega]
    exact wpAnyH_take (v := v) ho hsel h1 h2 (fun c a w => hQ c _ _ a w) hy (hc _ hI) (pures_of hsel hQ hc hK r _ _ w h7 hI hr)
abbrev Mk := Nat → Option (Value × Nat × Nat)
def putM (a : Act) (dst : Nat → Tmp) (M : Mk) : List Nat → Act
  | [] => a
  | j :: r => match M j with
    | some x => (putM a dst M r).put (some (dst j)) x.1
    | none => putM a dst M r
def updM (M : Mk) (j : Nat) (x : Value × Nat × Nat) : Mk := fun k => if k = j then some x else M k
theorem putM_off {a : Act} {dst : Nat → Tmp} {M : Mk} {j : Nat} {x : Value × Nat × Nat} : ∀ {js : List Nat}, j ∉ js → putM a dst (updM M j x) js = putM a dst M js
  | [], _ => rfl
  | k :: r, h => by
    have hk : k ≠ j := fun e => h (by simp [e])
    have ih := putM_off (a := a) (dst := dst) (M := M) (x := x) (js := r) (fun hm => h (List.mem_cons_of_mem _ hm))
    have e : updM M j x k = M k := if_neg hk
    simp only [putM, e, ih]
theorem putM_upd {a : Act} {dst : Nat → Tmp} {M : Mk} {j : Nat} {x : Value × Nat × Nat} : ∀ {js : List Nat}, j ∈ js → js.Nodup → (∀ k ∈ js, k ≠ j → dst k ≠ dst j) → M j = none → (putM a dst M js).put (some (dst j)) x.1 = putM a dst (updM M j x) js
  | [], h, _, _, _ => by simp at h
  | k :: r, h, hn, hd, hM => by
    obtain ⟨hkr, hnr⟩ := List.nodup_cons.1 hn
    by_cases hk : k = j
    · subst hk
      have e : updM M k x k = some x := if_pos rfl
      simp only [putM, e, hM, putM_off hkr]
    · have hj : j ∈ r := by
        rcases List.mem_cons.1 h with e | e
        · exact absurd e.symm hk
        · exact e
      have ih := putM_upd (a := a) (dst := dst) (M := M) (x := x) hj hnr (fun k' hk' => hd k' (by simp [hk'])) hM
      have e : updM M j x k = M k := if_neg hk
      have hne := hd k (by simp) hk
      simp only [putM, e]
      cases hMk : M k with
      | none => exact ih
      | some y =>
        simp only
        rw [← ih]
        exact Act.put_comm _ (x := some (dst k)) (y := some (dst j)) _ _ (fun e he => by cases he; intro h2; injection h2 with h2; exact hne h2.symm)
theorem exec_putM {o : Oper} (hs : ∀ cs b, o.op ≠ .select cs b) {a : Act} {dst : Nat → Tmp} {M : Mk} : ∀ {js : List Nat}, (∀ k ∈ js, dst k ∉ o.looksAt ops) → execOp (putM a dst M js).eval o = execOp a.eval o
  | [], _ => rfl
  | k :: r, h => by
    have ih := exec_putM hs (a := a) (dst := dst) (M := M) (js := r) (fun k' hk' => h k' (by simp [hk']))
    simp only [putM]
    split
    · rw [execOp_put (ops := ops) o hs _ (some (dst k)) _ (fun e he => by cases he; exact h k (by simp)), ih]
    · exact ih
/-- What each of the jobs does, and what is to come behind them all. -/
structure JobsK (P : Program) (ops : Array Oper) (S I : World → Prop) (Q : Exit → Act → World → Prop) (n0 : Nat) (js st : List Nat) (dst : Nat → Tmp) (R : Nat → Value → Nat → Nat → World → Prop) (a0 : Act) : Prop where
  job : ∀ j ∈ js, ∃ o, ops[j]? = some o ∧ o.guard = none ∧ o.dst = some (dst j) ∧ (∀ k ∈ js, dst k ∉ o.looksAt ops) ∧ ∀ w, I w → Upon P (fun v w' => Below w.heap.size w w' ∧ R j v w.heap.size w'.heap.size w') ((execOp a0.eval o).run P w)
  fin : ∀ (w : World) (M : Mk), I w → (∀ j ∈ js, ∃ x, M j = some x ∧ n0 ≤ x.2.1 ∧ x.2.1 ≤ x.2.2 ∧ x.2.2 ≤ w.heap.size ∧ R j x.1 x.2.1 x.2.2 w) → (∀ j ∈ js, ∀ k ∈ js, j ≠ k → ∀ x y, M j = some x → M k = some y → x.2.2 ≤ y.2.1 ∨ y.2.2 ≤ x.2.1) → runsS P ops S (Q .normal) st (putM a0 dst M js) w
theorem jobsK_of {S I : World → Prop} {n0 : Nat} {js st : List Nat} {dst : Nat → Tmp} {R : Nat → Value → Nat → Nat → World → Prop} {a0 : Act} (hsel : Region.noSelect ops = true) (hnd : js.Nodup) (hdst : ∀ j ∈ js, ∀ k ∈ js, j ≠ k → dst j ≠ dst k)
    (hc : ∀ w, I w → S w) (hn0 : ∀ w, I w → n0 ≤ w.heap.size) (hgrow : ∀ w w', I w → Below w.heap.size w w' → I w') (hR : ∀ j v lo hi w w', R j v lo hi w → Below w.heap.size w w' → R j v lo hi w')
    (h : JobsK P ops S I Q n0 js st dst R a0) (l : Array Bool) (w : World) (hI : I w) (hok : okJ md ops st js.length js l = true) : wpAnyH P md ops Q S (js.length + st.length) l a0 w := by
  refine jobs_of (J := fun rem a w => ∃ M : Mk, a = putM a0 dst M js ∧ I w ∧ (∀ k ∈ js, k ∈ rem ↔ M k = none) ∧ (∀ k ∈ js, ∀ x, M k = some x → n0 ≤ x.2.1 ∧ x.2.1 ≤ x.2.2 ∧ x.2.2 ≤ w.heap.size ∧ R k x.1 x.2.1 x.2.2 w) ∧ (∀ j ∈ js, ∀ k ∈ js, j ≠ k → ∀ x y, M j = some x → M k = some y → x.2.2 ≤ y.2.1 ∨ y.2.2 ≤ x.2.1) ∧ rem.Nodup ∧ ∀ k ∈ rem, k ∈ js) ?_ ?_ ?_ js.length js l a0 w hok ?_
  · rintro rem a w ⟨M, _, h2, _⟩
    exact hc _ h2
  · rintro rem j a w hj ⟨M, rfl, h2, h3, h4, h5, h6, h7⟩
    have hjs := h7 j hj
    obtain ⟨o, ho, hg, hd, hl, hu⟩ := h.job j hjs
    refine ⟨o, ho, hg, ?_⟩
    rw [exec_putM (Region.noSelect_spec hsel j o · · ho) hl]
    refine Upon.imp (hu w h2) ?_
    rintro v w' ⟨b, hr⟩
    have hMj : M j = none := (h3 j hjs).1 hj
    refine ⟨updM M j (v, w.heap.size, w'.heap.size), ?_, hgrow _ _ h2 b, ?_, ?_, ?_, h6.erase _, fun k hk => h7 k (List.mem_of_mem_erase hk)⟩
    · rw [hd]
      exact putM_upd (x := (v, w.heap.size, w'.heap.size)) hjs hnd (fun k hk hne => hdst k hk j hjs hne) hMj
    · intro k hk
      unfold updM
      by_cases e : k = j
      · subst e
        rw [if_pos rfl]
        simp [h6.not_mem_erase]
      · rw [if_neg e, List.mem_erase_of_ne e]
        exact h3 k hk
    · intro k hk x hx
      unfold updM at hx
      split at hx
      · rename_i e
        subst e
        injection hx with hx
        subst hx
        exact ⟨hn0 _ h2, b.size, Nat.le_refl _, hr⟩
      · obtain ⟨g1, g2, g3, g4⟩ := h4 k hk x hx
        exact ⟨g1, g2, Nat.le_trans g3 b.size, hR _ _ _ _ _ _ g4 b⟩
    · intro i hi k hk hne x y hx hy
      unfold updM at hx hy
      split at hx
      · rename_i e
        subst e
        rw [if_neg (Ne.symm hne)] at hy
        injection hx with hx
        subst hx
        exact .inr (h4 k hk y hy).2.2.1
      · split at hy
        · rename_i e
          subst e
          injection hy with hy
          subst hy
          exact .inl (h4 i hi x hx).2.2.1
        · exact h5 i hi k hk hne x y hx hy
  · rintro a w ⟨M, rfl, h2, h3, h4, h5, h6, h7⟩
    refine h.fin w M h2 (fun j hj => ?_) h5
    cases hM : M j with
    | none => exact absurd ((h3 j hj).2 hM) (by simp)
    | some x => exact ⟨x, rfl, h4 j hj x hM⟩
  · refine ⟨fun _ => none, ?_, hI, fun k hk => by simp [hk], (fun k hk x hx => by cases hx), (fun i hi k hk hne x y hx => by cases hx), hnd, fun k hk => hk⟩
    have : ∀ js : List Nat, a0 = putM a0 dst (fun _ => none) js := by
      intro js
      induction js with
      | nil => rfl
      | cons j r ih => exact ih
    exact this js
theorem JobsK.noPanic {I : World → Prop} {n0 : Nat} {js st : List Nat} {dst : Nat → Tmp} {R : Nat → Value → Nat → Nat → World → Prop} {a0 : Act} (h : JobsK P ops S I Q n0 js st dst R a0) : JobsK P ops S I (NoPanic Q) n0 js st dst R a0 := by
  refine ⟨h.job, fun w M a1 a2 a3 => ?_⟩
  have mono : ∀ (st : List Nat) (a : Act) (w : World), runsS P ops S (Q .normal) st a w → runsS P ops S (NoPanic Q .normal) st a w := by
    intro st
    induction st with
    | nil => intro a w h; exact NoPanic.normal h
    | cons j st ih => rintro a w ⟨o, w', v, e1, e2, e3, e4, e5⟩; exact ⟨o, w', v, e1, e2, e3, e4, ih _ _ e5⟩
  exact mono _ _ _ (h.fin w M a1 a2 a3)
theorem pureJ_imp {K K2 : Act → Prop} (hK : ∀ a, K a → K2 a) : ∀ (r : List Nat) (a : Act), pureJ P ops S K r a → pureJ P ops S K2 r a
  | [], a, h => hK _ h
  | i :: r, a, ⟨o, v, ho, hy, hr⟩ => ⟨o, v, ho, hy, pureJ_imp hK r _ hr⟩
/-- THE LAW. -/
theorem region_jobs {id : Nat} {a : Act} {w : World} (r js st : List Nat) (dst : Nat → Tmp) (R : Nat → Value → Nat → Nat → World → Prop) (n0 : Nat) (S I : World → Prop) (hm : P.follows .mixedOrders = true)
    (hok : okPJ .any ops js st r (Array.replicate ops.size false) = true) (hlen : ops.size = r.length + (js.length + st.length)) (hsel : Region.noSelect ops = true) (hnd : js.Nodup) (hdst : ∀ j ∈ js, ∀ k ∈ js, j ≠ k → dst j ≠ dst k)
    (hc : ∀ w, I w → S w) (hn0 : ∀ w, I w → n0 ≤ w.heap.size) (hgrow : ∀ w w', I w → Below w.heap.size w w' → I w') (hR : ∀ j v lo hi w w', R j v lo hi w → Below w.heap.size w w' → R j v lo hi w') (hI : I w.drew)
    (h : pureJ P ops S (JobsK P ops S I Q n0 js st dst R) r a) : (Code.region id ops true).wp P Q a w := by
  refine wp_region_noPanic (wp_region_held hm (S := S) ?_)
  have k := pures_of (md := .any) (Q := NoPanic Q) (S := S) (I := I) (js := js) (st := st) hsel (fun _ _ _ _ _ h => h) hc (K := JobsK P ops S I Q n0 js st dst R) (fun a w l hK hI hok => jobsK_of hsel hnd hdst hc hn0 hgrow hR hK.noPanic l w hI hok) r _ a _ hok hI h
  rw [← hlen] at k; exact k
/-- The same where what is known of the world is that nothing has turned but from block w.heap.size on. -/
theorem region_jobsB {id : Nat} {a : Act} {w : World} (r js st : List Nat) (dst : Nat → Tmp) (R : Nat → Value → Nat → Nat → World → Prop) (hm : P.follows .mixedOrders = true)
    (hok : okPJ .any ops js st r (Array.replicate ops.size false) = true) (hlen : ops.size = r.length + (js.length + st.length)) (hsel : Region.noSelect ops = true) (hnd : js.Nodup) (hdst : ∀ j ∈ js, ∀ k ∈ js, j ≠ k → dst j ≠ dst k)
    (hR : ∀ j v lo hi w w', R j v lo hi w → Below w.heap.size w w' → R j v lo hi w') (S : World → Prop) (hc : ∀ w', BI w w' → S w')
    (h : pureJ P ops S (JobsK P ops S (BI w) Q w.heap.size js st dst R) r a) : (Code.region id ops true).wp P Q a w :=
  region_jobs r js st dst R w.heap.size S (BI w) hm hok hlen hsel hnd hdst hc (fun _ h => Below.size h) (fun _ _ h b => BI.next h b) hR (BI.start w) h
end
section
variable {ops : Array Oper} {S : World → Prop} {K : Act → Prop}
theorem j_pure (d : Tmp) {i : Nat} {r : List Nat} {a : Act} {v : Value} {o : Oper} (ho : ops[i]? = some o) (hd : o.dst = some d) (hg : o.guard = none)
    (he : ∀ w, (execOp a.eval o).run Try.prog w = .ok (.value v) w) (hr : pureJ Try.prog ops S K r (a.put (some d) v)) : pureJ Try.prog ops S K (i :: r) a :=
  ⟨o, v, ho, .inl ⟨wanted_of hg, fun w _ => he w⟩, hd ▸ hr⟩
/-- One cell is read. -/
theorem j_cell (d : Tmp) {i : Nat} {r : List Nat} {a : Act} {v : Value} {o : Oper} {T : TypeId} {x : Operand} {p : Addr} (ho : ops[i]? = some o) (hd : o.dst = some d) (hg : o.guard = none) (hop : o.op = .load T x) (hx : a.eval x = .pointer (some p))
    (hc : ∀ w, S w → (loadVar T p).run Try.prog w = .ok v w) (hr : pureJ Try.prog ops S K r (a.put (some d) v)) : pureJ Try.prog ops S K (i :: r) a :=
  ⟨o, v, ho, .inl ⟨wanted_of hg, fun w hw => by
    unfold execOp
    rw [hop]
    simp only [hx]
    have h := hc w hw
    simp [Instr.loadAt, Instr.sureAddr, asAddr, h, Result.andThen]⟩, hd ▸ hr⟩
end
end Go.Proofs.Yteccbcbijfcpmaa.cards

/- New games: the program's and the model's. -/
namespace Go.Proofs.Yteccbcbijfcpmaa.game
open Go.RowKit
open cards deal reg
set_option linter.unusedVariables false

def plI (p : Int) : Bool := decide (1 ≤ p ∧ p ≤ 4)
set_option maxHeartbeats 400000 in
theorem can_play (p : Int) (w : World) :
    Calls Try.prog 56 #[.int .i64 p] w fun e w' => e = .returned (.bool (plI p)) ∧ Below w.heap.size w w' := by
  go_enter Try.func56, Try.ntmps56
  go_wp2
  all_goals go_ret
  all_goals exact ⟨ret_bool (by unfold plI; simp; omega), by repeat (first | with_reducible exact Below.refl _ _ | with_reducible exact HB.out | with_reducible apply Below.drew | with_reducible apply bdN | with_reducible refine Below.alloc ?_ (by first | exact Nat.le_refl _ | with_reducible exact HB.out.size | omega | (simp; done) | (simp; omega) | (have := HB.out.size; simp at *; omega)) _ | with_reducible refine Below.setCell ?_ (by first | exact Nat.le_refl _ | with_reducible exact HB.out.size | omega | (simp; done) | (simp; omega) | (have := HB.out.size; simp at *; omega)) _)⟩
abbrev gm0 : Gm := ⟨0, 0, [], [], []⟩
noncomputable def newG (s : Int) (n : Nat) : Gm := ⟨s, (newD s).nx, (newD s).l, List.replicate n 0, List.replicate n 0⟩
noncomputable def ngR (s p : Int) : Gm × Bool := if isSd s = true ∧ plI p = true then (newG s p.toNat, true) else (gm0, false)
theorem ngR_len (s p : Int) : (ngR s p).1.l.length ≤ 1000 ∧ (ngR s p).1.sc.length ≤ 1000 ∧ (ngR s p).1.wr.length ≤ 1000 := by
  unfold ngR; split
  · rename_i h
    have h2 := h.2
    unfold plI at h2
    have := of_decide_eq_true h2
    have h3 := (new_facts (s := s)).2.1
    refine ⟨?_, ?_, ?_⟩
    · show (newD s).l.length ≤ _; omega
    · show (List.replicate p.toNat (0 : Int)).length ≤ _; rw [List.length_replicate]; omega
    · show (List.replicate p.toNat (0 : Int)).length ≤ _; rw [List.length_replicate]; omega
  · simp

/-- Three slices in a world, whichever was made first. -/
theorem OwnG.three {w : World} {B C : Nat} {vl vs vw : Value} {l : List Cd} {sc wr : List Int} {a1 b1 a2 b2 a3 b3 : Nat} (h1 : Own w a1 vl l) (h2 : OwnI w a2 vs sc) (h3 : OwnI w a3 vw wr) (c1 : ∀ g, vl.ownBlock = some g → g < b1) (c2 : ∀ g, vs.ownBlock = some g → g < b2) (c3 : ∀ g, vw.ownBlock = some g → g < b3)
    (d12 : b1 ≤ a2 ∨ b2 ≤ a1) (d13 : b1 ≤ a3 ∨ b3 ≤ a1) (d23 : b2 ≤ a3 ∨ b3 ≤ a2) (hB : B ≤ a1 ∧ B ≤ a2 ∧ B ≤ a3) (hC : b1 ≤ C ∧ b2 ≤ C ∧ b3 ≤ C) : OwnG w B C vl vs vw l sc wr :=
  ⟨h1.base hB.1, OwnI.base h2 hB.2.1, OwnI.base h3 hB.2.2, fun g e1 e2 => by have := c1 g e1; have := c2 g e2; have := (h1.span g e1).1; have := (h2.span g e2).1; omega, fun g e1 e2 => by have := c1 g e1; have := c3 g e2; have := (h1.span g e1).1; have := (h3.span g e2).1; omega, fun g e1 e2 => by have := c2 g e1; have := c3 g e2; have := (h2.span g e1).1; have := (h3.span g e2).1; omega,
    fun g e => Nat.lt_of_lt_of_le (c1 g e) hC.1, fun g e => Nat.lt_of_lt_of_le (c2 g e) hC.2.1, fun g e => Nat.lt_of_lt_of_le (c3 g e) hC.2.2⟩

theorem exec_makeI {n : Nat} (hn : n ≤ 1000000000) {a : Act} {o : Oper} {p q : Operand} (ho : o.op = .makeSlice 25 p q) (hp : a.eval p = .int .i64 n) (hq : a.eval q = .int .i64 n) (w : World) :
    (execOp a.eval o).run Try.prog w = .ok (.value (.slice (some ⟨w.heap.size, 0, none⟩) n n)) (w.alloc (.cells (madeCells #[Value.int .i64 0] n) 3)) := by
  unfold execOp
  rw [ho]
  simp only [hp, hq]
  simp [madeI n hn w, Result.andThen]
abbrev cvG (s n : Int) (v u q : Value) : Array Value := #[.int .i64 s, .int .i64 n, v, u, q]
/-- A Game is stored into a block. -/
theorem exec_storeG {w : World} {g : Nat} {s0 n0 : Int} {v0 u0 q0 : Value} (h : GBox w g ⟨27, s0, n0, v0, u0, q0⟩) {a : Act} {o : Oper} {p q : Operand} (ho : o.op = .store 27 p q) {s n : Int} {pl ps pw : Option Addr} {nl cl ns cs nw cw : Nat}
    (hp : a.eval p = .pointer (some ⟨g, 0, none⟩)) (hq : a.eval q = gval s n (.slice pl nl cl) (.slice ps ns cs) (.slice pw nw cw)) : (execOp a.eval o).run Try.prog w = .ok .skip (w.setCells g 0 (cvG s n (.slice pl nl cl) (.slice ps ns cs) (.slice pw nw cw)).toList) := by
  have hv : VB w g 27 (cvG s0 n0 v0 u0 q0) := h
  have hr := run_storeAt_mid (P := Try.prog) w g 0 27 (cvG s n (.slice pl nl cl) (.slice ps ns cs) (.slice pw nw cw)) hv.there (by kernel_rfl) (by simp [Value.oneCell'])
  unfold execOp
  rw [ho]
  simp only [hp, hq]
  simp [hr, Result.andThen]
theorem gbox_sets {w : World} {g : Nat} {t : TypeId} {s0 n0 : Int} {v0 u0 q0 : Value} (h : GBox w g ⟨t, s0, n0, v0, u0, q0⟩) (s n : Int) (v u q : Value) : GBox (w.setCells g 0 (cvG s n v u q).toList) g ⟨t, s, n, v, u, q⟩ := VB.stored (T := t) (cs := cvG s0 n0 v0 u0 q0) (cs2 := cvG s n v u q) h rfl
theorem out_sets (w : World) (g : Nat) (vs : List Value) : Out g (g + 1) w (w.setCells g 0 vs) := Out.grown (grown_setsV g vs 0 w) (fun q e => by injection e with e; omega)
theorem OwnI.madeB (w : World) (n : Nat) : ∀ g, (Value.slice (some ⟨w.heap.size, 0, none⟩) n n).ownBlock = some g → g < w.heap.size + 1 := fun g e => by have e2 : some w.heap.size = some g := e; injection e2 with e2; omega

set_option maxRecDepth 100000 in
set_option maxHeartbeats 2000000 in
theorem impl_ng (s p : Int) (w : World) :
    Calls Try.prog 16 #[.int .i64 s, .int .i64 p] w fun e w' => ∃ vl vs vw, e = .returned (.tuple #[gval (ngR s p).1.s (ngR s p).1.nx vl vs vw, .bool (ngR s p).2]) ∧ OwnG w' w.heap.size w'.heap.size vl vs vw (ngR s p).1.l (ngR s p).1.sc (ngR s p).1.wr ∧ Below w.heap.size w w' := by
  cases hs : isSd s
  · have HT := Lib.hid (show ngR s p = (gm0, false) by unfold ngR; rw [if_neg (by simp [hs])])
    have HC := Lib.hid (fun w => is_seed s w)
    rw [hs] at HC
    clear hs
    go_enter Try.func16, Try.ntmps16
    go_wp2_with fail
    refine ((HC.out _)).mono ?_
    rintro e w1 ⟨rfl, b⟩
    have Sw1 := Lib.hid b.size
    have HB := Lib.hid (chain0 (w := w) (by repeat (first | with_reducible exact Below.refl _ _ | with_reducible exact HB.out | with_reducible apply Below.drew | with_reducible apply bdN | with_reducible refine Below.alloc ?_ (by first | exact Nat.le_refl _ | with_reducible exact HB.out.size | omega | (simp; done) | (simp; omega) | (have := HB.out.size; simp at *; omega)) _ | with_reducible refine Below.setCell ?_ (by first | exact Nat.le_refl _ | with_reducible exact HB.out.size | omega | (simp; done) | (simp; omega) | (have := HB.out.size; simp at *; omega)) _)) b)
    have K2 : Hid (GBox _ (w.heap.size) (⟨27, 0, 0, .slice none 0 0, .slice none 0 0, .slice none 0 0⟩)) := Lib.hid (GBox.below (by repeat (first | with_reducible exact K2.out | with_reducible apply GBox.drewN | with_reducible apply GBox.drew | (with_reducible refine GBox.newAt ?_ ?_ <;> first | (simp; done) | rfl) | with_reducible apply GBox.alloc)) b)
    try clear k2a k2b k2c k2d k2e k2z
    have k2z := K2.out.lt
    obtain ⟨k2a, k2b, k2c, k2d, k2e⟩ := K2.out.cell
    try clear k2f
    have k2f := K2.out.frozen
    clear b
    go_wp2_with fail
    try simp only [Exit.inBlock, Exit.then]
    refine bodyPost_ret (res_game2 Try.results16 rfl (K2.out.set_ _ _ _ _ _)) rfl ?_
    exact ⟨.slice none 0 0, .slice none 0 0, .slice none 0 0, by rw [HT.out]; rfl, by rw [HT.out]; exact (OwnG.empty _ _).top (by have := HB.out.size; simpa [World.setCell] using this), by repeat (first | with_reducible exact Below.refl _ _ | with_reducible exact HB.out | with_reducible apply Below.drew | with_reducible apply bdN | with_reducible refine Below.alloc ?_ (by first | exact Nat.le_refl _ | with_reducible exact HB.out.size | omega | (simp; done) | (simp; omega) | (have := HB.out.size; simp at *; omega)) _ | with_reducible refine Below.setCell ?_ (by first | exact Nat.le_refl _ | with_reducible exact HB.out.size | omega | (simp; done) | (simp; omega) | (have := HB.out.size; simp at *; omega)) _)⟩
  · cases hp : plI p
    · have HT := Lib.hid (show ngR s p = (gm0, false) by unfold ngR; rw [if_neg (by simp [hp])])
      have HC := Lib.hid (fun w => is_seed s w)
      rw [hs] at HC
      have HP := Lib.hid (fun w => can_play p w)
      rw [hp] at HP
      clear hs hp
      go_enter Try.func16, Try.ntmps16
      go_wp2_with fail
      refine ((HC.out _)).mono ?_
      rintro e w1 ⟨rfl, b⟩
      have Sw1 := Lib.hid b.size
      have HB := Lib.hid (chain0 (w := w) (by repeat (first | with_reducible exact Below.refl _ _ | with_reducible exact HB.out | with_reducible apply Below.drew | with_reducible apply bdN | with_reducible refine Below.alloc ?_ (by first | exact Nat.le_refl _ | with_reducible exact HB.out.size | omega | (simp; done) | (simp; omega) | (have := HB.out.size; simp at *; omega)) _ | with_reducible refine Below.setCell ?_ (by first | exact Nat.le_refl _ | with_reducible exact HB.out.size | omega | (simp; done) | (simp; omega) | (have := HB.out.size; simp at *; omega)) _)) b)
      have K2 : Hid (GBox _ (w.heap.size) (⟨27, 0, 0, .slice none 0 0, .slice none 0 0, .slice none 0 0⟩)) := Lib.hid (GBox.below (by repeat (first | with_reducible exact K2.out | with_reducible apply GBox.drewN | with_reducible apply GBox.drew | (with_reducible refine GBox.newAt ?_ ?_ <;> first | (simp; done) | rfl) | with_reducible apply GBox.alloc)) b)
      try clear k2a k2b k2c k2d k2e k2z
      have k2z := K2.out.lt
      obtain ⟨k2a, k2b, k2c, k2d, k2e⟩ := K2.out.cell
      try clear k2f
      have k2f := K2.out.frozen
      clear b
      go_wp2_with fail
      refine ((HP.out _)).mono ?_
      rintro e w2 ⟨rfl, b⟩
      have Sw2 := Lib.hid b.size
      have HB := Lib.hid (chain0 (w := w) (by repeat (first | with_reducible exact Below.refl _ _ | with_reducible exact HB.out | with_reducible apply Below.drew | with_reducible apply bdN | with_reducible refine Below.alloc ?_ (by first | exact Nat.le_refl _ | with_reducible exact HB.out.size | omega | (simp; done) | (simp; omega) | (have := HB.out.size; simp at *; omega)) _ | with_reducible refine Below.setCell ?_ (by first | exact Nat.le_refl _ | with_reducible exact HB.out.size | omega | (simp; done) | (simp; omega) | (have := HB.out.size; simp at *; omega)) _)) b)
      have K2 : Hid (GBox _ (w.heap.size) (⟨27, 0, 0, .slice none 0 0, .slice none 0 0, .slice none 0 0⟩)) := Lib.hid (GBox.below (by repeat (first | with_reducible exact K2.out | with_reducible apply GBox.drewN | with_reducible apply GBox.drew | (with_reducible refine GBox.newAt ?_ ?_ <;> first | (simp; done) | rfl) | with_reducible apply GBox.alloc)) b)
      try clear k2a k2b k2c k2d k2e k2z
      have k2z := K2.out.lt
      obtain ⟨k2a, k2b, k2c, k2d, k2e⟩ := K2.out.cell
      try clear k2f
      have k2f := K2.out.frozen
      clear b
      go_wp2_with fail
      try simp only [Exit.inBlock, Exit.then]
      refine bodyPost_ret (res_game2 Try.results16 rfl (K2.out.set_ _ _ _ _ _)) rfl ?_
      exact ⟨.slice none 0 0, .slice none 0 0, .slice none 0 0, by rw [HT.out]; rfl, by rw [HT.out]; exact (OwnG.empty _ _).top (by have := HB.out.size; simpa [World.setCell] using this), by repeat (first | with_reducible exact Below.refl _ _ | with_reducible exact HB.out | with_reducible apply Below.drew | with_reducible apply bdN | with_reducible refine Below.alloc ?_ (by first | exact Nat.le_refl _ | with_reducible exact HB.out.size | omega | (simp; done) | (simp; omega) | (have := HB.out.size; simp at *; omega)) _ | with_reducible refine Below.setCell ?_ (by first | exact Nat.le_refl _ | with_reducible exact HB.out.size | omega | (simp; done) | (simp; omega) | (have := HB.out.size; simp at *; omega)) _)⟩
    · have hp2 := hp
      unfold plI at hp2
      have hp3 := of_decide_eq_true hp2
      obtain ⟨n, rfl⟩ : ∃ n : Nat, p = (n : Int) := ⟨p.toNat, by omega⟩
      have HT := Lib.hid (show ngR s n = (newG s n, true) by unfold ngR; rw [if_pos ⟨hs, hp⟩]; simp)
      have HC := Lib.hid (fun w => is_seed s w)
      rw [hs] at HC
      have HP := Lib.hid (fun w => can_play n w)
      rw [hp] at HP
      have HNd := Lib.hid (fun w => new_deal s w (isSd_iff.1 hs))
      have hn4 : n ≤ 4 := by omega
      have hmk := madeI n (by omega)
      have HMo := Lib.hid (fun w => own_madeI w n (by omega))
      have HT1 : Hid ((ngR s n).1 = newG s n) := Lib.hid (by rw [HT.out])
      have HT2 : Hid ((ngR s n).2 = true) := Lib.hid (by rw [HT.out])
      obtain ⟨L, hL⟩ : ∃ L, (newD s).l = L := ⟨_, rfl⟩
      obtain ⟨z, hz⟩ : ∃ z, (newD s).nx = z := ⟨_, rfl⟩
      obtain ⟨m, hm⟩ : ∃ m, L.length = m := ⟨_, rfl⟩
      have HTg : Hid ((ngR s n).1 = ⟨s, z, L, List.replicate n 0, List.replicate n 0⟩) := Lib.hid (by rw [HT1.out]; unfold newG; rw [hL, hz])
      rw [HTg.out, HT2.out]
      rw [hL, hz] at HNd
      have HMm := Lib.hid hm
      clear hs hp hp2 hp3 HT HT1 HT2 HTg hL hz hm
      go_enter Try.func16, Try.ntmps16
      go_wp2_with fail
      refine ((HC.out _)).mono ?_
      rintro e w1 ⟨rfl, b⟩
      have Sw1 := Lib.hid b.size
      have HB := Lib.hid (chain0 (w := w) (by repeat (first | with_reducible exact Below.refl _ _ | with_reducible exact HB.out | with_reducible apply Below.drew | with_reducible apply bdN | with_reducible refine Below.alloc ?_ (by first | exact Nat.le_refl _ | with_reducible exact HB.out.size | omega | (simp; done) | (simp; omega) | (have := HB.out.size; simp at *; omega)) _ | with_reducible refine Below.setCell ?_ (by first | exact Nat.le_refl _ | with_reducible exact HB.out.size | omega | (simp; done) | (simp; omega) | (have := HB.out.size; simp at *; omega)) _)) b)
      have K2 : Hid (GBox _ (w.heap.size) (⟨27, 0, 0, .slice none 0 0, .slice none 0 0, .slice none 0 0⟩)) := Lib.hid (GBox.below (by repeat (first | with_reducible exact K2.out | with_reducible apply GBox.drewN | with_reducible apply GBox.drew | (with_reducible refine GBox.newAt ?_ ?_ <;> first | (simp; done) | rfl) | with_reducible apply GBox.alloc)) b)
      try clear k2a k2b k2c k2d k2e k2z
      have k2z := K2.out.lt
      obtain ⟨k2a, k2b, k2c, k2d, k2e⟩ := K2.out.cell
      try clear k2f
      have k2f := K2.out.frozen
      clear b
      go_wp2_with fail
      refine ((HP.out _)).mono ?_
      rintro e w2 ⟨rfl, b⟩
      have Sw2 := Lib.hid b.size
      have HB := Lib.hid (chain0 (w := w) (by repeat (first | with_reducible exact Below.refl _ _ | with_reducible exact HB.out | with_reducible apply Below.drew | with_reducible apply bdN | with_reducible refine Below.alloc ?_ (by first | exact Nat.le_refl _ | with_reducible exact HB.out.size | omega | (simp; done) | (simp; omega) | (have := HB.out.size; simp at *; omega)) _ | with_reducible refine Below.setCell ?_ (by first | exact Nat.le_refl _ | with_reducible exact HB.out.size | omega | (simp; done) | (simp; omega) | (have := HB.out.size; simp at *; omega)) _)) b)
      have K2 : Hid (GBox _ (w.heap.size) (⟨27, 0, 0, .slice none 0 0, .slice none 0 0, .slice none 0 0⟩)) := Lib.hid (GBox.below (by repeat (first | with_reducible exact K2.out | with_reducible apply GBox.drewN | with_reducible apply GBox.drew | (with_reducible refine GBox.newAt ?_ ?_ <;> first | (simp; done) | rfl) | with_reducible apply GBox.alloc)) b)
      try clear k2a k2b k2c k2d k2e k2z
      have k2z := K2.out.lt
      obtain ⟨k2a, k2b, k2c, k2d, k2e⟩ := K2.out.cell
      try clear k2f
      have k2f := K2.out.frozen
      clear b
      go_upto_region 3 with fail
      refine region_jobsB [0, 2, 4] [1, 3, 5] [6, 7, 8] (fun j => if j = 1 then 16 else if j = 3 then 18 else 20) (fun j v lo hi w' => (∀ g, v.ownBlock = some g → g < hi) ∧ if j = 1 then ∃ u, v = dval s z u ∧ Own w' lo u L ∧ (∀ g, u.ownBlock = some g → g < hi) else OwnI w' lo v (List.replicate n 0)) (by kernel_rfl) (by kernel_rfl) rfl (by kernel_rfl) (by decide) (by decide) ?_ (fun _ => True) (fun _ _ => trivial) ?_
      · rintro j v lo hi wa wb ⟨h0, h1⟩ hb
        refine ⟨h0, ?_⟩
        split at h1
        · rename_i e
          rw [if_pos e]
          obtain ⟨u, e1, e2, e3⟩ := h1
          exact ⟨u, e1, e2.below hb, e3⟩
        · rename_i e
          rw [if_neg e]
          exact h1.below hb
      refine j_pure 15 (v := .int .i64 s) rfl rfl rfl (fun w => by kernel_rfl) ?_
      refine j_pure 17 (v := .int .i64 n) rfl rfl rfl (fun w => by kernel_rfl) ?_
      refine j_pure 19 (v := .int .i64 n) rfl rfl rfl (fun w => by kernel_rfl) ?_
      refine ⟨fun j hj => ?_, fun w' M hI hM hd => ?_⟩
      · simp only [List.mem_cons, List.not_mem_nil, or_false] at hj
        rcases hj with rfl | rfl | rfl
        · refine ⟨_, rfl, rfl, rfl, of_decide_eq_true (by kernel_rfl), fun w' hI => ?_⟩
          refine Upon.enter (f := 57) (args := #[.int .i64 s]) (by kernel_rfl) ((HNd.out w').mono ?_)
          rintro e w4 ⟨u, rfl, hu, b⟩
          exact ⟨_, rfl, b, (fun g e => by cases e), ⟨u, rfl, hu, fun g e => (hu.span g e).2⟩⟩
        · refine ⟨_, rfl, rfl, rfl, of_decide_eq_true (by kernel_rfl), fun w' hI => ?_⟩
          rw [exec_makeI (n := n) (by omega) rfl (by kernel_rfl) (by kernel_rfl)]
          exact ⟨(Below.refl _ _).alloc (Nat.le_refl _) _, (fun g e => by have := OwnI.madeB w' n g e; simpa using this), own_madeI w' n (by omega)⟩
        · refine ⟨_, rfl, rfl, rfl, of_decide_eq_true (by kernel_rfl), fun w' hI => ?_⟩
          rw [exec_makeI (n := n) (by omega) rfl (by kernel_rfl) (by kernel_rfl)]
          exact ⟨(Below.refl _ _).alloc (Nat.le_refl _) _, (fun g e => by have := OwnI.madeB w' n g e; simpa using this), own_madeI w' n (by omega)⟩
      · obtain ⟨⟨v1, a1, b1⟩, e1, l1, m1, r1, _, h1⟩ := hM 1 (by simp)
        obtain ⟨⟨v3, a3, b3⟩, e3, l3, m3, r3, c3, h3⟩ := hM 3 (by simp)
        obtain ⟨⟨v5, a5, b5⟩, e5, l5, m5, r5, c5, h5⟩ := hM 5 (by simp)
        have d13 := hd 1 (by simp) 3 (by simp) (by decide) _ _ e1 e3
        have d15 := hd 1 (by simp) 5 (by simp) (by decide) _ _ e1 e5
        have d35 := hd 3 (by simp) 5 (by simp) (by decide) _ _ e3 e5
        simp only [if_true, if_false, Nat.reduceEqDiff] at h1 h3 h5 c3 c5 l1 m1 r1 l3 m3 r3 l5 m5 r5 d13 d15 d35
        obtain ⟨u, rfl, hu, cu⟩ := h1
        have HG : OwnG w' w2.heap.size w'.heap.size u v3 v5 L (List.replicate n 0) (List.replicate n 0) := OwnG.three hu h3 h5 cu c3 c5 d13 d15 d35 ⟨l1, l3, l5⟩ ⟨r1, r3, r5⟩
        obtain ⟨pl, cl, ps, cs, pw, cw, rfl, rfl, rfl, _⟩ := HG.form
        simp only [putM, e1, e3, e5]
        have K2' : Hid (GBox w' w.heap.size ⟨27, 0, 0, .slice none 0 0, .slice none 0 0, .slice none 0 0⟩) := Lib.hid (K2.out.below hI)
        have HB' := Lib.hid (HB.out.trans (Below.mono hI HB.out.size))
        have k2lt := K2.out.lt
        have HGs := Lib.hid (HG.out (out_sets w' w.heap.size (cvG s z (.slice pl L.length cl) (.slice ps (List.replicate n (0 : Int)).length cs) (.slice pw (List.replicate n (0 : Int)).length cw)).toList) (.inr k2lt))
        have HK := Lib.hid (gbox_sets K2'.out s z (.slice pl L.length cl) (.slice ps (List.replicate n (0 : Int)).length cs) (.slice pw (List.replicate n (0 : Int)).length cw))
        have HBs := Lib.hid (Below.out HB'.out (out_sets w' w.heap.size (cvG s z (.slice pl L.length cl) (.slice ps (List.replicate n (0 : Int)).length cs) (.slice pw (List.replicate n (0 : Int)).length cw)).toList) HB'.out.size (Nat.le_refl _))
        have HSz := Lib.hid (out_sets w' w.heap.size (cvG s z (.slice pl L.length cl) (.slice ps (List.replicate n (0 : Int)).length cs) (.slice pw (List.replicate n (0 : Int)).length cw)).toList).size
        refine ⟨_, w', gval s z (.slice pl L.length cl) (.slice ps (List.replicate n (0 : Int)).length cs) (.slice pw (List.replicate n (0 : Int)).length cw), rfl, rfl, .inl (by kernel_rfl), trivial, ?_⟩
        refine ⟨_, w'.setCells w.heap.size 0 (cvG s z (.slice pl L.length cl) (.slice ps (List.replicate n (0 : Int)).length cs) (.slice pw (List.replicate n (0 : Int)).length cw)).toList, undef, rfl, rfl, .inr ⟨exec_storeG K2'.out (p := .tmp 4) (q := .tmp 21) (s := s) (n := z) (pl := pl) (ps := ps) (pw := pw) (nl := L.length) (cl := cl) (ns := (List.replicate n (0 : Int)).length) (cs := cs) (nw := (List.replicate n (0 : Int)).length) (cw := cw) rfl (by kernel_rfl) (by kernel_rfl), rfl⟩, trivial, ?_⟩
        refine ⟨_, w'.setCells w.heap.size 0 (cvG s z (.slice pl L.length cl) (.slice ps (List.replicate n (0 : Int)).length cs) (.slice pw (List.replicate n (0 : Int)).length cw)).toList, .bool true, rfl, rfl, .inl (by kernel_rfl), trivial, ?_⟩
        clear hM hd hI e1 e3 e5 c3 c5 h3 h5 hu cu HG
        simp only [runsS, Act.put, List.setIfInBounds_toArray, List.set_cons_zero, List.set_cons_succ, if_true, if_false, Nat.reduceEqDiff]
        generalize w'.setCells w.heap.size 0 (cvG s z (.slice pl L.length cl) (.slice ps (List.replicate n (0 : Int)).length cs) (.slice pw (List.replicate n (0 : Int)).length cw)).toList = W at HGs HK HBs HSz ⊢
        go_wp2_with fail
        try simp only [Exit.inBlock, Exit.then]
        refine bodyPost_ret (res_game2 Try.results16 rfl HK.out) rfl ?_
        exact ⟨_, _, _, rfl, (HGs.out.base HB.out.size).top HSz.out, HBs.out⟩

set_option maxRecDepth 100000 in
set_option maxHeartbeats 2000000 in
theorem spec_ng (s p : Int) (w : World) :
    Calls Try.prog 15 #[.int .i64 s, .int .i64 p] w fun e w' => ∃ vl vs vw, e = .returned (.tuple #[gval (ngR s p).1.s (ngR s p).1.nx vl vs vw, .bool (ngR s p).2]) ∧ OwnG w' w.heap.size w'.heap.size vl vs vw (ngR s p).1.l (ngR s p).1.sc (ngR s p).1.wr ∧ Below w.heap.size w w' := by
  cases hs : isSd s
  · have HT := Lib.hid (show ngR s p = (gm0, false) by unfold ngR; rw [if_neg (by simp [hs])])
    have HN0 : Hid (ndR s = (⟨0, 0, []⟩, false)) := Lib.hid (by unfold ndR; rw [if_neg (by simp [hs])])
    have HC : Hid (∀ w, Calls Try.prog 53 #[.int .i64 s] w fun e w' => ∃ u, e = .returned (.tuple #[dval 0 0 u, .bool false]) ∧ Own w' w.heap.size u [] ∧ Below w.heap.size w w') := Lib.hid (fun w => by have h := spec_nd s w; rw [HN0.out] at h; exact h)
    clear hs
    go_enter Try.func15, Try.ntmps15
    go_wp2_with fail
    refine (HC.out _).mono ?_
    rintro e wa ⟨u, rfl, hu, b⟩
    obtain ⟨pu, cu, rfl, _⟩ := hu.form
    clear hu
    have Swa := Lib.hid b.size
    have HB := Lib.hid (chain0 (w := w) (by repeat (first | with_reducible exact Below.refl _ _ | with_reducible exact HB.out | with_reducible apply Below.drew | with_reducible apply bdN | with_reducible refine Below.alloc ?_ (by first | exact Nat.le_refl _ | with_reducible exact HB.out.size | omega | (simp; done) | (simp; omega) | (have := HB.out.size; simp at *; omega)) _ | with_reducible refine Below.setCell ?_ (by first | exact Nat.le_refl _ | with_reducible exact HB.out.size | omega | (simp; done) | (simp; omega) | (have := HB.out.size; simp at *; omega)) _)) b)
    have K2 : Hid (GBox _ (w.heap.size) (⟨27, 0, 0, .slice none 0 0, .slice none 0 0, .slice none 0 0⟩)) := Lib.hid (GBox.below (by repeat (first | with_reducible exact K2.out | with_reducible apply GBox.drewN | with_reducible apply GBox.drew | (with_reducible refine GBox.newAt ?_ ?_ <;> first | (simp; done) | rfl) | with_reducible apply GBox.alloc)) b)
    try clear k2a k2b k2c k2d k2e k2z
    have k2z := K2.out.lt
    obtain ⟨k2a, k2b, k2c, k2d, k2e⟩ := K2.out.cell
    try clear k2f
    have k2f := K2.out.frozen
    clear b
    go_upto_region 2 with fail
    obtain ⟨w1b, ew, b⟩ : ∃ wOPN : World, wOPN = (wa.alloc (Dv.obj ⟨24, 0, 0, .slice pu 0 cu⟩)) ∧ Below ((wa.alloc (Dv.obj ⟨24, 0, 0, .slice pu 0 cu⟩))).heap.size ((wa.alloc (Dv.obj ⟨24, 0, 0, .slice pu 0 cu⟩))) wOPN := ⟨_, rfl, Below.refl _ _⟩
    rw [← ew]
    clear ew
    have Sw1b := Lib.hid b.size
    have HB := Lib.hid (chain0 (w := w) (by repeat (first | with_reducible exact Below.refl _ _ | with_reducible exact HB.out | with_reducible apply Below.drew | with_reducible apply bdN | with_reducible refine Below.alloc ?_ (by first | exact Nat.le_refl _ | with_reducible exact HB.out.size | omega | (simp; done) | (simp; omega) | (have := HB.out.size; simp at *; omega)) _ | with_reducible refine Below.setCell ?_ (by first | exact Nat.le_refl _ | with_reducible exact HB.out.size | omega | (simp; done) | (simp; omega) | (have := HB.out.size; simp at *; omega)) _)) b)
    have K2 : Hid (GBox _ (w.heap.size) (⟨27, 0, 0, .slice none 0 0, .slice none 0 0, .slice none 0 0⟩)) := Lib.hid (GBox.below (by repeat (first | with_reducible exact K2.out | with_reducible apply GBox.drewN | with_reducible apply GBox.drew | (with_reducible refine GBox.newAt ?_ ?_ <;> first | (simp; done) | rfl) | with_reducible apply GBox.alloc)) b)
    try clear k2a k2b k2c k2d k2e k2z
    have k2z := K2.out.lt
    obtain ⟨k2a, k2b, k2c, k2d, k2e⟩ := K2.out.cell
    try clear k2f
    have k2f := K2.out.frozen
    clear b
    go_wp2_with fail
    try simp only [Exit.inBlock, Exit.then]
    refine bodyPost_ret (res_game2 Try.results15 rfl (K2.out.set_ _ _ _ _ _)) rfl ?_
    exact ⟨.slice none 0 0, .slice none 0 0, .slice none 0 0, by rw [HT.out]; rfl, by rw [HT.out]; exact (OwnG.empty _ _).top (by have := HB.out.size; simpa [World.setCell] using this), by repeat (first | with_reducible exact Below.refl _ _ | with_reducible exact HB.out | with_reducible apply Below.drew | with_reducible apply bdN | with_reducible refine Below.alloc ?_ (by first | exact Nat.le_refl _ | with_reducible exact HB.out.size | omega | (simp; done) | (simp; omega) | (have := HB.out.size; simp at *; omega)) _ | with_reducible refine Below.setCell ?_ (by first | exact Nat.le_refl _ | with_reducible exact HB.out.size | omega | (simp; done) | (simp; omega) | (have := HB.out.size; simp at *; omega)) _)⟩
  · have HNd := Lib.hid (fun w => spec_nd s w)
    have HN1 : Hid ((ndR s).1 = newD s) := Lib.hid (by unfold ndR; rw [if_pos hs])
    have HN2 : Hid ((ndR s).2 = true) := Lib.hid (by unfold ndR; rw [if_pos hs])
    have HN3 := Lib.hid (new_is s)
    rw [HN1.out, HN2.out, HN3.out.2.2] at HNd
    cases hp : plI p
    · have HT := Lib.hid (show ngR s p = (gm0, false) by unfold ngR; rw [if_neg (by simp [hp])])
      have HP := Lib.hid (fun w => l1_in p 1 4 w)
      have hp2 : decide (1 ≤ p ∧ p ≤ 4) = false := hp
      rw [hp2] at HP
      obtain ⟨L, hL⟩ : ∃ L, (newD s).l = L := ⟨_, rfl⟩
      obtain ⟨z, hz⟩ : ∃ z, (newD s).nx = z := ⟨_, rfl⟩
      obtain ⟨m, hm⟩ : ∃ m, L.length = m := ⟨_, rfl⟩
      rw [hL, hz] at HNd
      have HMm := Lib.hid hm
      clear hs hp hp2 HN1 HN2 HN3 hL hz hm
      go_enter Try.func15, Try.ntmps15
      go_wp2_with fail
      refine (HNd.out _).mono ?_
      rintro e wa ⟨u, rfl, hu, b⟩
      obtain ⟨pu, cu, rfl, _⟩ := hu.form
      rw [HMm.out]
      clear hu
      have Swa := Lib.hid b.size
      have HB := Lib.hid (chain0 (w := w) (by repeat (first | with_reducible exact Below.refl _ _ | with_reducible exact HB.out | with_reducible apply Below.drew | with_reducible apply bdN | with_reducible refine Below.alloc ?_ (by first | exact Nat.le_refl _ | with_reducible exact HB.out.size | omega | (simp; done) | (simp; omega) | (have := HB.out.size; simp at *; omega)) _ | with_reducible refine Below.setCell ?_ (by first | exact Nat.le_refl _ | with_reducible exact HB.out.size | omega | (simp; done) | (simp; omega) | (have := HB.out.size; simp at *; omega)) _)) b)
      have K2 : Hid (GBox _ (w.heap.size) (⟨27, 0, 0, .slice none 0 0, .slice none 0 0, .slice none 0 0⟩)) := Lib.hid (GBox.below (by repeat (first | with_reducible exact K2.out | with_reducible apply GBox.drewN | with_reducible apply GBox.drew | (with_reducible refine GBox.newAt ?_ ?_ <;> first | (simp; done) | rfl) | with_reducible apply GBox.alloc)) b)
      try clear k2a k2b k2c k2d k2e k2z
      have k2z := K2.out.lt
      obtain ⟨k2a, k2b, k2c, k2d, k2e⟩ := K2.out.cell
      try clear k2f
      have k2f := K2.out.frozen
      clear b
      go_upto_region 2 with fail
      obtain ⟨w1b, ew, b⟩ : ∃ wOPN : World, wOPN = (wa.alloc (Dv.obj ⟨24, s, z, .slice pu m cu⟩)) ∧ Below ((wa.alloc (Dv.obj ⟨24, s, z, .slice pu m cu⟩))).heap.size ((wa.alloc (Dv.obj ⟨24, s, z, .slice pu m cu⟩))) wOPN := ⟨_, rfl, Below.refl _ _⟩
      rw [← ew]
      clear ew
      have Sw1b := Lib.hid b.size
      have HB := Lib.hid (chain0 (w := w) (by repeat (first | with_reducible exact Below.refl _ _ | with_reducible exact HB.out | with_reducible apply Below.drew | with_reducible apply bdN | with_reducible refine Below.alloc ?_ (by first | exact Nat.le_refl _ | with_reducible exact HB.out.size | omega | (simp; done) | (simp; omega) | (have := HB.out.size; simp at *; omega)) _ | with_reducible refine Below.setCell ?_ (by first | exact Nat.le_refl _ | with_reducible exact HB.out.size | omega | (simp; done) | (simp; omega) | (have := HB.out.size; simp at *; omega)) _)) b)
      have K2 : Hid (GBox _ (w.heap.size) (⟨27, 0, 0, .slice none 0 0, .slice none 0 0, .slice none 0 0⟩)) := Lib.hid (GBox.below (by repeat (first | with_reducible exact K2.out | with_reducible apply GBox.drewN | with_reducible apply GBox.drew | (with_reducible refine GBox.newAt ?_ ?_ <;> first | (simp; done) | rfl) | with_reducible apply GBox.alloc)) b)
      try clear k2a k2b k2c k2d k2e k2z
      have k2z := K2.out.lt
      obtain ⟨k2a, k2b, k2c, k2d, k2e⟩ := K2.out.cell
      try clear k2f
      have k2f := K2.out.frozen
      clear b
      go_wp2_with fail
      refine (HP.out _).mono ?_
      rintro e w2 ⟨rfl, b⟩
      have Sw2 := Lib.hid b.size
      have HB := Lib.hid (chain0 (w := w) (by repeat (first | with_reducible exact Below.refl _ _ | with_reducible exact HB.out | with_reducible apply Below.drew | with_reducible apply bdN | with_reducible refine Below.alloc ?_ (by first | exact Nat.le_refl _ | with_reducible exact HB.out.size | omega | (simp; done) | (simp; omega) | (have := HB.out.size; simp at *; omega)) _ | with_reducible refine Below.setCell ?_ (by first | exact Nat.le_refl _ | with_reducible exact HB.out.size | omega | (simp; done) | (simp; omega) | (have := HB.out.size; simp at *; omega)) _)) b)
      have K2 : Hid (GBox _ (w.heap.size) (⟨27, 0, 0, .slice none 0 0, .slice none 0 0, .slice none 0 0⟩)) := Lib.hid (GBox.below (by repeat (first | with_reducible exact K2.out | with_reducible apply GBox.drewN | with_reducible apply GBox.drew | (with_reducible refine GBox.newAt ?_ ?_ <;> first | (simp; done) | rfl) | with_reducible apply GBox.alloc)) b)
      try clear k2a k2b k2c k2d k2e k2z
      have k2z := K2.out.lt
      obtain ⟨k2a, k2b, k2c, k2d, k2e⟩ := K2.out.cell
      try clear k2f
      have k2f := K2.out.frozen
      clear b
      go_wp2_with fail
      try simp only [Exit.inBlock, Exit.then]
      refine bodyPost_ret (res_game2 Try.results15 rfl (K2.out.set_ _ _ _ _ _)) rfl ?_
      exact ⟨.slice none 0 0, .slice none 0 0, .slice none 0 0, by rw [HT.out]; rfl, by rw [HT.out]; exact (OwnG.empty _ _).top (by have := HB.out.size; simpa [World.setCell] using this), by repeat (first | with_reducible exact Below.refl _ _ | with_reducible exact HB.out | with_reducible apply Below.drew | with_reducible apply bdN | with_reducible refine Below.alloc ?_ (by first | exact Nat.le_refl _ | with_reducible exact HB.out.size | omega | (simp; done) | (simp; omega) | (have := HB.out.size; simp at *; omega)) _ | with_reducible refine Below.setCell ?_ (by first | exact Nat.le_refl _ | with_reducible exact HB.out.size | omega | (simp; done) | (simp; omega) | (have := HB.out.size; simp at *; omega)) _)⟩
    · have hp2 := hp
      unfold plI at hp2
      have hp3 := of_decide_eq_true hp2
      obtain ⟨n, rfl⟩ : ∃ n : Nat, p = (n : Int) := ⟨p.toNat, by omega⟩
      have HT := Lib.hid (show ngR s n = (newG s n, true) by unfold ngR; rw [if_pos ⟨hs, hp⟩]; simp)
      have HP := Lib.hid (fun w => l1_in n 1 4 w)
      rw [hp2] at HP
      have hn4 : n ≤ 4 := by omega
      have HT1 : Hid ((ngR s n).1 = newG s n) := Lib.hid (by rw [HT.out])
      have HT2 : Hid ((ngR s n).2 = true) := Lib.hid (by rw [HT.out])
      obtain ⟨L, hL⟩ : ∃ L, (newD s).l = L := ⟨_, rfl⟩
      obtain ⟨z, hz⟩ : ∃ z, (newD s).nx = z := ⟨_, rfl⟩
      obtain ⟨m, hm⟩ : ∃ m, L.length = m := ⟨_, rfl⟩
      have HTg : Hid ((ngR s n).1 = ⟨s, z, L, List.replicate n 0, List.replicate n 0⟩) := Lib.hid (by rw [HT1.out]; unfold newG; rw [hL, hz])
      rw [HTg.out, HT2.out]
      rw [hL, hz] at HNd
      have HMm := Lib.hid hm
      clear hs hp hp2 hp3 HT HT1 HT2 HTg HN1 HN2 HN3 hL hz hm
      go_enter Try.func15, Try.ntmps15
      go_wp2_with fail
      refine (HNd.out _).mono ?_
      rintro e wa ⟨u, rfl, hu, b⟩
      obtain ⟨pu, cu, rfl, _⟩ := hu.form
      rw [HMm.out] at hu ⊢
      have Swa := Lib.hid b.size
      have HB := Lib.hid (chain0 (w := w) (by repeat (first | with_reducible exact Below.refl _ _ | with_reducible exact HB.out | with_reducible apply Below.drew | with_reducible apply bdN | with_reducible refine Below.alloc ?_ (by first | exact Nat.le_refl _ | with_reducible exact HB.out.size | omega | (simp; done) | (simp; omega) | (have := HB.out.size; simp at *; omega)) _ | with_reducible refine Below.setCell ?_ (by first | exact Nat.le_refl _ | with_reducible exact HB.out.size | omega | (simp; done) | (simp; omega) | (have := HB.out.size; simp at *; omega)) _)) b)
      have K2 : Hid (GBox _ (w.heap.size) (⟨27, 0, 0, .slice none 0 0, .slice none 0 0, .slice none 0 0⟩)) := Lib.hid (GBox.below (by repeat (first | with_reducible exact K2.out | with_reducible apply GBox.drewN | with_reducible apply GBox.drew | (with_reducible refine GBox.newAt ?_ ?_ <;> first | (simp; done) | rfl) | with_reducible apply GBox.alloc)) b)
      try clear k2a k2b k2c k2d k2e k2z
      have k2z := K2.out.lt
      obtain ⟨k2a, k2b, k2c, k2d, k2e⟩ := K2.out.cell
      try clear k2f
      have k2f := K2.out.frozen
      clear b
      have HU := Lib.hid (hu.alloc (Dv.obj ⟨24, s, z, .slice pu m cu⟩))
      have HUl := Lib.hid (fun g e => (hu.span g e).2)
      have HUs := Lib.hid (show w.heap.size + 1 ≤ wa.heap.size from K2.out.lt)
      clear hu
      go_upto_region 2 with fail
      have K6 : Hid (DBox (wa.alloc (Dv.obj ⟨24, s, z, .slice pu m cu⟩)) wa.heap.size ⟨24, s, z, .slice pu m cu⟩) := Lib.hid (DBox.newAt rfl rfl)
      obtain ⟨g6, hg6⟩ : ∃ g6, wa.heap.size = g6 := ⟨_, rfl⟩
      rw [hg6] at K6 HUl HUs
      try rw [hg6]
      clear hg6
      obtain ⟨w1b, ew, b⟩ : ∃ wOPN : World, wOPN = (wa.alloc (Dv.obj ⟨24, s, z, .slice pu m cu⟩)) ∧ Below ((wa.alloc (Dv.obj ⟨24, s, z, .slice pu m cu⟩))).heap.size ((wa.alloc (Dv.obj ⟨24, s, z, .slice pu m cu⟩))) wOPN := ⟨_, rfl, Below.refl _ _⟩
      rw [← ew]
      clear ew
      have Sw1b := Lib.hid b.size
      have HB := Lib.hid (chain0 (w := w) (by repeat (first | with_reducible exact Below.refl _ _ | with_reducible exact HB.out | with_reducible apply Below.drew | with_reducible apply bdN | with_reducible refine Below.alloc ?_ (by first | exact Nat.le_refl _ | with_reducible exact HB.out.size | omega | (simp; done) | (simp; omega) | (have := HB.out.size; simp at *; omega)) _ | with_reducible refine Below.setCell ?_ (by first | exact Nat.le_refl _ | with_reducible exact HB.out.size | omega | (simp; done) | (simp; omega) | (have := HB.out.size; simp at *; omega)) _)) b)
      have HU := Lib.hid (Own.below (by repeat (first | with_reducible exact HU.out | with_reducible apply Own.drewN | with_reducible apply Own.drew | with_reducible apply Own.alloc)) b)
      have K2 : Hid (GBox _ (w.heap.size) (⟨27, 0, 0, .slice none 0 0, .slice none 0 0, .slice none 0 0⟩)) := Lib.hid (GBox.below (by repeat (first | with_reducible exact K2.out | with_reducible apply GBox.drewN | with_reducible apply GBox.drew | (with_reducible refine GBox.newAt ?_ ?_ <;> first | (simp; done) | rfl) | with_reducible apply GBox.alloc)) b)
      have K6 : Hid (DBox _ (g6) (⟨24, s, z, .slice pu m cu⟩)) := Lib.hid (DBox.below (by repeat (first | with_reducible exact K6.out | with_reducible apply DBox.drewN | with_reducible apply DBox.drew | (with_reducible refine DBox.newAt ?_ ?_ <;> first | (simp; done) | rfl) | with_reducible apply DBox.alloc)) b)
      try clear k2a k2b k2c k2d k2e k2z
      have k2z := K2.out.lt
      obtain ⟨k2a, k2b, k2c, k2d, k2e⟩ := K2.out.cell
      try clear k2f
      have k2f := K2.out.frozen
      try clear k6a k6b k6c k6d k6z
      have k6z := K6.out.lt
      obtain ⟨k6a, k6b, k6c, k6d⟩ := K6.out.cell
      clear b
      go_wp2_with fail
      refine (HP.out _).mono ?_
      rintro e w2 ⟨rfl, b⟩
      have Sw2 := Lib.hid b.size
      have HB := Lib.hid (chain0 (w := w) (by repeat (first | with_reducible exact Below.refl _ _ | with_reducible exact HB.out | with_reducible apply Below.drew | with_reducible apply bdN | with_reducible refine Below.alloc ?_ (by first | exact Nat.le_refl _ | with_reducible exact HB.out.size | omega | (simp; done) | (simp; omega) | (have := HB.out.size; simp at *; omega)) _ | with_reducible refine Below.setCell ?_ (by first | exact Nat.le_refl _ | with_reducible exact HB.out.size | omega | (simp; done) | (simp; omega) | (have := HB.out.size; simp at *; omega)) _)) b)
      have HU := Lib.hid (Own.below (by repeat (first | with_reducible exact HU.out | with_reducible apply Own.drewN | with_reducible apply Own.drew | with_reducible apply Own.alloc)) b)
      have K2 : Hid (GBox _ (w.heap.size) (⟨27, 0, 0, .slice none 0 0, .slice none 0 0, .slice none 0 0⟩)) := Lib.hid (GBox.below (by repeat (first | with_reducible exact K2.out | with_reducible apply GBox.drewN | with_reducible apply GBox.drew | (with_reducible refine GBox.newAt ?_ ?_ <;> first | (simp; done) | rfl) | with_reducible apply GBox.alloc)) b)
      have K6 : Hid (DBox _ (g6) (⟨24, s, z, .slice pu m cu⟩)) := Lib.hid (DBox.below (by repeat (first | with_reducible exact K6.out | with_reducible apply DBox.drewN | with_reducible apply DBox.drew | (with_reducible refine DBox.newAt ?_ ?_ <;> first | (simp; done) | rfl) | with_reducible apply DBox.alloc)) b)
      try clear k2a k2b k2c k2d k2e k2z
      have k2z := K2.out.lt
      obtain ⟨k2a, k2b, k2c, k2d, k2e⟩ := K2.out.cell
      try clear k2f
      have k2f := K2.out.frozen
      try clear k6a k6b k6c k6d k6z
      have k6z := K6.out.lt
      obtain ⟨k6a, k6b, k6c, k6d⟩ := K6.out.cell
      clear b
      go_upto_region 4 with fail
      refine region_jobsB [0, 1, 3] [2, 4] [5, 6, 7] (fun j => if j = 2 then 23 else 25) (fun j v lo hi w' => (∀ g, v.ownBlock = some g → g < hi) ∧ OwnI w' lo v (List.replicate n 0)) (by kernel_rfl) (by kernel_rfl) rfl (by kernel_rfl) (by decide) (by decide) (fun j v lo hi wa wb h hb => ⟨h.1, h.2.below hb⟩) (fun w' => DBox w' g6 ⟨24, s, z, .slice pu m cu⟩) (fun w' h => K6.out.below h) ?_
      refine j_cell 21 (v := dval s z (.slice pu m cu)) rfl rfl rfl rfl (by kernel_rfl) (fun w' h => load_deal h) ?_
      refine j_pure 22 (v := .int .i64 n) rfl rfl rfl (fun w => by kernel_rfl) ?_
      refine j_pure 24 (v := .int .i64 n) rfl rfl rfl (fun w => by kernel_rfl) ?_
      refine ⟨fun j hj => ?_, fun w' M hI hM hd => ?_⟩
      · simp only [List.mem_cons, List.not_mem_nil, or_false] at hj
        rcases hj with rfl | rfl
        · refine ⟨_, rfl, rfl, rfl, of_decide_eq_true (by kernel_rfl), fun w' hI => ?_⟩
          rw [exec_makeI (n := n) (by omega) rfl (by kernel_rfl) (by kernel_rfl)]
          exact ⟨(Below.refl _ _).alloc (Nat.le_refl _) _, (fun g e => by have := OwnI.madeB w' n g e; simpa using this), own_madeI w' n (by omega)⟩
        · refine ⟨_, rfl, rfl, rfl, of_decide_eq_true (by kernel_rfl), fun w' hI => ?_⟩
          rw [exec_makeI (n := n) (by omega) rfl (by kernel_rfl) (by kernel_rfl)]
          exact ⟨(Below.refl _ _).alloc (Nat.le_refl _) _, (fun g e => by have := OwnI.madeB w' n g e; simpa using this), own_madeI w' n (by omega)⟩
      · obtain ⟨⟨v3, a3, b3⟩, e3, l3, m3, r3, c3, h3⟩ := hM 2 (by simp)
        obtain ⟨⟨v5, a5, b5⟩, e5, l5, m5, r5, c5, h5⟩ := hM 4 (by simp)
        have d35 := hd 2 (by simp) 4 (by simp) (by decide) _ _ e3 e5
        simp only at h3 h5 c3 c5 l3 m3 r3 l5 m5 r5 d35
        have hk6 := K6.out.lt
        have hus := HUs.out
        have hu' := Own.below HU.out hI
        have HG : OwnG w' (w.heap.size + 1) w'.heap.size (.slice pu m cu) v3 v5 L (List.replicate n 0) (List.replicate n 0) := OwnG.three (hu'.base (B' := w.heap.size + 1) (by simp)) h3 h5 (b1 := g6) HUl.out c3 c5 (by omega) (by omega) d35 ⟨by omega, by omega, by omega⟩ ⟨by have := Below.size hI; omega, r3, r5⟩
        obtain ⟨pl, cl, ps, cs, pw, cw, epl, rfl, rfl, _⟩ := HG.form
        simp only [putM, e3, e5]
        have K2' : Hid (GBox w' w.heap.size ⟨27, 0, 0, .slice none 0 0, .slice none 0 0, .slice none 0 0⟩) := Lib.hid (K2.out.below hI)
        have HB' := Lib.hid (HB.out.trans (Below.mono hI HB.out.size))
        have k2lt := K2.out.lt
        have HGs := Lib.hid (HG.out (out_sets w' w.heap.size (cvG s z (.slice pu m cu) (.slice ps (List.replicate n (0 : Int)).length cs) (.slice pw (List.replicate n (0 : Int)).length cw)).toList) (.inr (Nat.le_refl _)))
        have HK := Lib.hid (gbox_sets K2'.out s z (.slice pu m cu) (.slice ps (List.replicate n (0 : Int)).length cs) (.slice pw (List.replicate n (0 : Int)).length cw))
        have HBs := Lib.hid (Below.out HB'.out (out_sets w' w.heap.size (cvG s z (.slice pu m cu) (.slice ps (List.replicate n (0 : Int)).length cs) (.slice pw (List.replicate n (0 : Int)).length cw)).toList) HB'.out.size (Nat.le_refl _))
        have HSz := Lib.hid (out_sets w' w.heap.size (cvG s z (.slice pu m cu) (.slice ps (List.replicate n (0 : Int)).length cs) (.slice pw (List.replicate n (0 : Int)).length cw)).toList).size
        refine ⟨_, w', gval s z (.slice pu m cu) (.slice ps (List.replicate n (0 : Int)).length cs) (.slice pw (List.replicate n (0 : Int)).length cw), rfl, rfl, .inl (by kernel_rfl), K6.out.below hI, ?_⟩
        have hI2 : DBox (w'.setCells w.heap.size 0 (cvG s z (.slice pu m cu) (.slice ps (List.replicate n (0 : Int)).length cs) (.slice pw (List.replicate n (0 : Int)).length cw)).toList) g6 ⟨24, s, z, .slice pu m cu⟩ := ((out_sets w' w.heap.size _).block g6 (K6.out.below hI).lt (.inr (by omega))).trans (K6.out.below hI)
        refine ⟨_, w'.setCells w.heap.size 0 (cvG s z (.slice pu m cu) (.slice ps (List.replicate n (0 : Int)).length cs) (.slice pw (List.replicate n (0 : Int)).length cw)).toList, undef, rfl, rfl, .inr ⟨exec_storeG K2'.out (p := .tmp 4) (q := .tmp 26) (s := s) (n := z) (pl := pu) (ps := ps) (pw := pw) (nl := m) (cl := cu) (ns := (List.replicate n (0 : Int)).length) (cs := cs) (nw := (List.replicate n (0 : Int)).length) (cw := cw) rfl (by kernel_rfl) (by kernel_rfl), rfl⟩, hI2, ?_⟩
        refine ⟨_, w'.setCells w.heap.size 0 (cvG s z (.slice pu m cu) (.slice ps (List.replicate n (0 : Int)).length cs) (.slice pw (List.replicate n (0 : Int)).length cw)).toList, .bool true, rfl, rfl, .inl (by kernel_rfl), hI2, ?_⟩
        clear hM hd hI hI2 e3 e5 c3 c5 h3 h5 hu' HG
        simp only [runsS, Act.put, List.setIfInBounds_toArray, List.set_cons_zero, List.set_cons_succ, if_true, if_false, Nat.reduceEqDiff]
        generalize w'.setCells w.heap.size 0 (cvG s z (.slice pu m cu) (.slice ps (List.replicate n (0 : Int)).length cs) (.slice pw (List.replicate n (0 : Int)).length cw)).toList = W at HGs HK HBs HSz ⊢
        go_wp2_with fail
        try simp only [Exit.inBlock, Exit.then]
        refine bodyPost_ret (res_game2 Try.results15 rfl HK.out) rfl ?_
        exact ⟨_, _, _, rfl, (HGs.out.base (by omega)).top HSz.out, HBs.out⟩
end Go.Proofs.Yteccbcbijfcpmaa.game

/- LinesIn: the program and the model alike. -/
namespace Go.Proofs.Yteccbcbijfcpmaa.cards
open Go.RowKit
set_option linter.unusedVariables false

noncomputable def linR (l : List Cd) : List A3 × Bool := if handB l = true then (allL l l.length, true) else ([], false)
theorem linR_len (l : List Cd) : (linR l).1.length ≤ 100000000 := by
  unfold linR
  split
  · rename_i h
    have h1 := (handB_true.1 h).1
    have h2 := allL_len l l.length
    have h3 : l.length * l.length ≤ 27 * 27 := Nat.mul_le_mul h1 h1
    show (allL l l.length).length ≤ _
    omega
  · simp
end Go.Proofs.Yteccbcbijfcpmaa.cards

/- Lines of a hand and pickings of them: the mathematics alone. -/
namespace Go.Proofs.Yteccbcbijfcpmaa.parting
open Go.RowKit
open cards
set_option linter.unusedVariables false

def same3 (x y : A3) : Bool := decide (x.a = y.a ∧ x.b = y.b ∧ x.c = y.c)
theorem same3_iff {x y : A3} : same3 x y = true ↔ x = y := by
  obtain ⟨a, b, c⟩ := x
  obtain ⟨e, f, g⟩ := y
  simp [same3]
/-- Is a place in a line? -/
def inL (x : A3) (i : Int) : Bool := decide (x.a = i ∨ x.b = i ∨ x.c = i)
/-- Have two lines a place in common? -/
def meet (x y : A3) : Bool := inL x y.a || inL x y.b || inL x y.c
def cov (ls : List A3) (i : Int) : Bool := ls.any (fun x => inL x i)
def free (ls : List A3) (x : A3) : Bool := ls.all (fun y => !meet y x)
theorem free_cov (ls : List A3) (x : A3) : free ls x = !(cov ls x.a || cov ls x.b || cov ls x.c) := by
  rw [Bool.eq_iff_iff]
  simp only [free, cov, meet, List.all_eq_true, Bool.not_eq_true', Bool.or_eq_false_iff, List.any_eq_false]
  constructor
  · intro h
    exact ⟨⟨fun y hy => by rw [((h y hy).1).1]; simp, fun y hy => by rw [((h y hy).1).2]; simp⟩, fun y hy => by rw [(h y hy).2]; simp⟩
  · rintro ⟨⟨h1, h2⟩, h3⟩ y hy
    exact ⟨⟨by simpa using h1 y hy, by simpa using h2 y hy⟩, by simpa using h3 y hy⟩
def gfP (b q : List A3) : List A3 := if b.length < q.length then q else b
theorem gfP_assoc (a b c : List A3) : gfP (gfP a b) c = gfP a (gfP b c) := by
  unfold gfP
  repeat' split
  all_goals first | rfl | omega
theorem foldl_gfP : ∀ (t : List (List A3)) (b q : List A3), t.foldl gfP (gfP b q) = gfP b (t.foldl gfP q)
  | [], b, q => rfl
  | x :: t, b, q => by
    simp only [List.foldl_cons]
    rw [gfP_assoc, foldl_gfP t]
/-- All pickings that are longer, made of one by the next lines, in order. -/
def tls : List A3 → List A3 → List (List A3)
  | [], _ => []
  | x :: r, ps => (if free ps x = true then (ps ++ [x]) :: tls r (ps ++ [x]) else []) ++ tls r ps
/-- The model's search. -/
def bs : List A3 → List A3 → List A3 → List A3
  | [], _, b => b
  | x :: r, ps, b => bs r ps (if free ps x = true then gfP b (bs r (ps ++ [x]) (ps ++ [x])) else b)
theorem bs_all : ∀ (r ps b : List A3), bs r ps b = (tls r ps).foldl gfP b
  | [], ps, b => rfl
  | x :: r, ps, b => by
    rw [bs, tls, bs_all r ps, List.foldl_append]
    congr 1
    split
    · rw [bs_all r (ps ++ [x]), List.foldl_cons, foldl_gfP]
    · rfl
theorem tls_len : ∀ (r ps : List A3) (q : List A3), q ∈ tls r ps → ps.length < q.length ∧ q.length ≤ ps.length + r.length
  | [], ps, q, h => by simp [tls] at h
  | x :: r, ps, q, h => by
    rw [tls, List.mem_append] at h
    rcases h with h | h
    · split at h
      · rcases List.mem_cons.1 h with rfl | h
        · simp
        · have := tls_len r (ps ++ [x]) q h
          simp at this ⊢; omega
      · simp at h
    · have := tls_len r ps q h
      simp at this ⊢; omega
theorem bs_len (r ps b : List A3) (N : Nat) (hb : b.length ≤ N) (hp : ps.length + r.length ≤ N) : (bs r ps b).length ≤ N := by
  rw [bs_all]
  have : ∀ (t : List (List A3)) (b : List A3), b.length ≤ N → (∀ q ∈ t, q.length ≤ N) → (t.foldl gfP b).length ≤ N := by
    intro t
    induction t with
    | nil => intro b h _; exact h
    | cons q t ih =>
      intro b h hq
      refine ih _ ?_ (fun z hz => hq z (by simp [hz]))
      unfold gfP
      split
      · exact hq q (by simp)
      · exact h
  exact this _ _ hb (fun q hq => by have := tls_len r ps q hq; omega)
/-- The first greatest picking. -/
def bestP (al : List A3) : List A3 := bs al [] []
theorem bestP_vis (al : List A3) : bestP al = ([] :: tls al []).foldl gfP [] := by
  unfold bestP; rw [bs_all]; rfl
/-- How many pickings have n lines more: the model's count. -/
def ct : List A3 → List A3 → Nat → Nat
  | [], _, _ => 0
  | x :: r, ps, n => (if free ps x = true then (if n = 1 then 1 else ct r (ps ++ [x]) (n - 1)) else 0) + ct r ps n
def ct0 (r ps : List A3) (n : Nat) : Nat := if n = 0 then 1 else ct r ps n
theorem ct_two : ∀ (r ps : List A3) (n : Nat), ct r ps n + 1 ≤ 2 ^ r.length
  | [], ps, n => by simp [ct]
  | x :: r, ps, n => by
    have h1 := ct_two r ps n
    have h2 := ct_two r (ps ++ [x]) (n - 1)
    rw [ct, List.length_cons, Nat.pow_succ]
    split <;> (try split) <;> omega
theorem tls_two : ∀ (r ps : List A3), (tls r ps).length + 1 ≤ 2 ^ r.length
  | [], ps => by simp [tls]
  | x :: r, ps => by
    have h1 := tls_two r ps
    have h2 := tls_two r (ps ++ [x])
    rw [tls, List.length_cons, Nat.pow_succ, List.length_append]
    split <;> simp <;> omega
theorem ct_tls : ∀ (r ps : List A3) (n : Nat), 1 ≤ n → (tls r ps).countP (fun q => decide (q.length = ps.length + n)) = ct r ps n
  | [], ps, n, h => by simp [tls, ct]
  | x :: r, ps, n, h => by
    rw [tls, ct, List.countP_append, ct_tls r ps n h]
    congr 1
    split
    · rw [List.countP_cons]
      by_cases h1 : n = 1
      · subst h1
        rw [if_pos rfl, if_pos (by simp)]
        have : (tls r (ps ++ [x])).countP (fun q => decide (q.length = ps.length + 1)) = 0 := by
          rw [List.countP_eq_zero]
          intro q hq
          have := (tls_len r (ps ++ [x]) q hq).1
          simp at this ⊢; omega
        omega
      · rw [if_neg h1, if_neg (by simp; omega), ← ct_tls r (ps ++ [x]) (n - 1) (by omega)]
        rw [Nat.add_zero]
        congr 1
        funext q
        simp; omega
    · rfl
/-- All pickings with N lines, counted as they are visited. -/
theorem ct0_vis (al : List A3) (N : Nat) : ([] :: tls al []).countP (fun q => decide (q.length = N)) = ct0 al [] N := by
  unfold ct0
  rw [List.countP_cons]
  by_cases h : N = 0
  · subst h
    rw [if_pos rfl]
    have : (tls al []).countP (fun q => decide (q.length = 0)) = 0 := by
      rw [List.countP_eq_zero]
      intro q hq
      have := (tls_len al [] q hq).1
      simp at this ⊢; intro e; rw [e] at this; simp at this
    rw [this]; simp
  · rw [if_neg h, ← ct_tls al [] N (by omega)]
    simp; omega
/-- Lines compared. -/
def befL (x y : A3) : Bool := decide (x.a < y.a ∨ x.a = y.a ∧ (x.b < y.b ∨ x.b = y.b ∧ x.c < y.c))
theorem befL_irr (x : A3) : befL x x = false := by unfold befL; exact decide_eq_false (by omega)
theorem befL_trans {x y z : A3} (h : befL x y = true) (k : befL y z = true) : befL x z = true := by
  unfold befL at *
  have h := of_decide_eq_true h
  have k := of_decide_eq_true k
  exact decide_eq_true (by omega)
/-- The program's search for the lines of a list among all lines, in order. -/
def am : List A3 → List A3 → List A3 → List A3
  | _, [], _ => []
  | [], x :: r, _ => x :: r
  | y :: al, x :: r, done => if same3 y x = true ∧ free done x = true then am al r (done ++ [x]) else am al (x :: r) done
def good : List A3 → List A3 → Bool
  | _, [] => true
  | done, x :: r => free done x && good (done ++ [x]) r
theorem am_iff : ∀ (al ls done : List A3), am al ls done = [] ↔ good done ls = true ∧ ls.Sublist al
  | al, [], done => by simp [am, good]
  | [], x :: r, done => by simp [am]
  | y :: al, x :: r, done => by
    rw [am]
    by_cases h : same3 y x = true ∧ free done x = true
    · obtain ⟨e, hf⟩ := h
      rw [if_pos ⟨e, hf⟩, am_iff al r]
      obtain rfl := same3_iff.1 e
      simp [good, hf, List.cons_sublist_cons]
    · rw [if_neg h, am_iff al (x :: r)]
      by_cases e : y = x
      · have hf : free done x = false := by
          cases hf : free done x
          · rfl
          · exact (h ⟨same3_iff.2 e, hf⟩).elim
        simp [good, hf]
      · constructor
        · rintro ⟨h1, h2⟩; exact ⟨h1, h2.cons _⟩
        · rintro ⟨h1, h2⟩
          refine ⟨h1, ?_⟩
          cases h2 with
          | cons _ h => exact h
          | cons_cons _ h => exact (e rfl).elim
def ascL (ls : List A3) : Prop := ls.Pairwise (fun x y => befL x y = true)
theorem sub_asc : ∀ {al ls : List A3}, ascL al → (ls.Sublist al ↔ (∀ x ∈ ls, x ∈ al) ∧ ascL ls)
  | al, [], _ => by simp [ascL]
  | [], x :: r, _ => by
    constructor
    · intro h; cases h
    · rintro ⟨h, _⟩; have := h x (by simp); simp at this
  | y :: al, x :: r, ha => by
    constructor
    · intro h
      exact ⟨fun z hz => h.subset hz, List.Pairwise.sublist h ha⟩
    · rintro ⟨h, hs⟩
      have ha' := (List.pairwise_cons.1 ha).2
      have hya := (List.pairwise_cons.1 ha).1
      have hs' := (List.pairwise_cons.1 hs).2
      have hxr := (List.pairwise_cons.1 hs).1
      rcases List.mem_cons.1 (h x (by simp)) with rfl | hx
      · refine List.Sublist.cons_cons _ ((sub_asc ha').2 ⟨fun z hz => ?_, hs'⟩)
        rcases List.mem_cons.1 (h z (by simp [hz])) with rfl | hz'
        · have := hxr _ hz; rw [befL_irr] at this; cases this
        · exact hz'
      · refine List.Sublist.cons _ ((sub_asc ha').2 ⟨fun z hz => ?_, hs⟩)
        rcases List.mem_cons.1 (h z hz) with rfl | hz'
        · have h1 := hya x hx
          rcases List.mem_cons.1 hz with rfl | hz
          · exact hx
          · have h2 := hxr _ hz
            have := befL_trans h1 h2
            rw [befL_irr] at this; cases this
        · exact hz'
/-- One line of a list that is to be a picking, as the model looks at it. -/
def stepOk (al ls : List A3) (k : Nat) : Prop := ∃ x, ls[k]? = some x ∧ x ∈ al ∧ free (ls.take k) x = true ∧ ∀ y, 0 < k → ls[k - 1]? = some y → befL y x = true
noncomputable def pickB (al ls : List A3) : Bool := @decide (∀ k, k < ls.length → stepOk al ls k) (Classical.propDecidable _)
theorem pickB_true {al ls : List A3} : pickB al ls = true ↔ ∀ k, k < ls.length → stepOk al ls k := by simp [pickB]
theorem good_iff : ∀ (ls done : List A3), good done ls = true ↔ ∀ k x, ls[k]? = some x → free (done ++ ls.take k) x = true
  | [], done => by simp [good]
  | x :: r, done => by
    rw [good, Bool.and_eq_true, good_iff r]
    constructor
    · rintro ⟨h1, h2⟩ k z hz
      cases k with
      | zero => obtain rfl : x = z := by simpa using hz
                simpa using h1
      | succ k => have := h2 k z (by simpa using hz)
                  simpa [List.append_assoc] using this
    · intro h
      refine ⟨by simpa using h 0 x rfl, fun k z hz => ?_⟩
      have := h (k + 1) z (by simpa using hz)
      simpa [List.append_assoc] using this
theorem asc_of : ∀ {ls : List A3}, (∀ k x y, ls[k]? = some x → ls[k + 1]? = some y → befL x y = true) → ascL ls
  | [], _ => List.Pairwise.nil
  | [x], _ => by simp [ascL]
  | x :: y :: r, h => by
    have ih : ascL (y :: r) := asc_of (fun k a b ha hb => h (k + 1) a b (by simpa using ha) (by simpa using hb))
    refine List.Pairwise.cons (fun z hz => ?_) ih
    have hxy := h 0 x y rfl rfl
    rcases List.mem_cons.1 hz with rfl | hz
    · exact hxy
    · exact befL_trans hxy ((List.pairwise_cons.1 ih).1 z hz)
theorem pick_am {al ls : List A3} (ha : ascL al) : pickB al ls = (am al ls []).isEmpty := by
  rw [Bool.eq_iff_iff, List.isEmpty_iff, am_iff, sub_asc ha, good_iff, pickB_true]
  constructor
  · intro h
    refine ⟨fun k x hx => ?_, fun x hx => ?_, asc_of (fun k x y hx hy => ?_)⟩
    · obtain ⟨x', hx', _, h2, _⟩ := h k (List.getElem?_eq_some_iff.1 hx).1
      rw [hx] at hx'; injection hx' with e; subst e
      simpa using h2
    · obtain ⟨k, hk⟩ := List.mem_iff_getElem?.1 hx
      obtain ⟨x', hx', h1, _⟩ := h k (List.getElem?_eq_some_iff.1 hk).1
      rw [hk] at hx'; injection hx' with e; subst e
      exact h1
    · obtain ⟨y', hy', _, _, h3⟩ := h (k + 1) (List.getElem?_eq_some_iff.1 hy).1
      rw [hy] at hy'; injection hy' with e; subst e
      exact h3 x (by omega) (by simpa using hx)
  · rintro ⟨h1, h2, h3⟩ k hk
    refine ⟨ls[k], List.getElem?_eq_getElem hk, h2 _ (List.getElem_mem hk), by simpa using h1 k _ (List.getElem?_eq_getElem hk), fun y h0 hy => ?_⟩
    obtain ⟨hk', rfl⟩ := List.getElem?_eq_some_iff.1 hy
    exact List.pairwise_iff_getElem.1 h3 (k - 1) k hk' hk (by omega)
theorem pick_bad {al ls : List A3} {k : Nat} (hk : k < ls.length) (h : ¬ stepOk al ls k) : pickB al ls = false := by
  cases e : pickB al ls
  · rfl
  · exact (h (pickB_true.1 e k hk)).elim
theorem pick_good {al ls : List A3} (h : ∀ k, k < ls.length → stepOk al ls k) : pickB al ls = true := by
  exact pickB_true.2 h
theorem third_third {x y : Cd} (hx : x.ok = true) : third (third x y) y = x := by
  obtain ⟨⟨x1, x2⟩, ⟨x3, x4⟩, ⟨x5, x6⟩, x7, x8⟩ := Cd.bd hx
  obtain ⟨a, b, c, d⟩ := x
  simp only [third, Cd.mk.injEq]
  simp only at x1 x2 x3 x4 x5 x6 x7 x8
  refine ⟨?_, ?_, ?_, ?_⟩ <;> omega
theorem third_sym (x y : Cd) : third x y = third y x := by
  simp only [third, Cd.mk.injEq]
  refine ⟨?_, ?_, ?_, ?_⟩ <;> omega
/-- The cards at two places have theirs at a third one as third card. -/
def Tr (l : List Cd) (i j q : Nat) : Prop := ∃ u v z, l[i]? = some u ∧ l[j]? = some v ∧ l[q]? = some z ∧ z = third u v
theorem Tr.swap {l : List Cd} {i j q : Nat} : Tr l i j q → Tr l j i q := by
  rintro ⟨u, v, z, h1, h2, h3, h4⟩
  exact ⟨v, u, z, h2, h1, h3, by rw [h4, third_sym]⟩
theorem Tr.rot {l : List Cd} (hok : l.all Cd.ok = true) {i j q : Nat} : Tr l i j q → Tr l i q j := by
  rintro ⟨u, v, z, h1, h2, h3, h4⟩
  refine ⟨u, z, v, h1, h3, h2, ?_⟩
  have := third_third (y := u) (ok_at hok h2)
  rw [h4, third_sym u (third u v), third_sym u v, this]
theorem at_inj {l : List Cd} (hs : sorted l) {i j : Nat} {x : Cd} (h1 : l[i]? = some x) (h2 : l[j]? = some x) : i = j := by
  rcases Nat.lt_trichotomy i j with h | h | h
  · have := sorted_lt hs h h1 h2; omega
  · exact h
  · have := sorted_lt hs h h2 h1; omega
theorem Tr.uniq {l : List Cd} (hs : sorted l) {i j q q' : Nat} : Tr l i j q → Tr l i j q' → q = q' := by
  rintro ⟨u, v, z, h1, h2, h3, h4⟩ ⟨u', v', z', k1, k2, k3, k4⟩
  rw [h1] at k1; injection k1 with e1
  rw [h2] at k2; injection k2 with e2
  subst e1; subst e2
  rw [h4] at h3; rw [k4] at k3
  exact at_inj hs h3 k3
theorem mem_item {l : List Cd} (hs : sorted l) (hok : l.all Cd.ok = true) {i j : Nat} {x : A3} : x ∈ item l i j ↔ ∃ q : Nat, j < q ∧ Tr l i j q ∧ x = ⟨(i : Int), (j : Int), (q : Int)⟩ := by
  unfold item
  constructor
  · intro h
    split at h
    · rename_i u v h1 h2
      split at h
      · rename_i hc
        obtain ⟨ht, hj⟩ := hc
        refine ⟨less l (third u v), hj, ⟨u, v, third u v, h1, h2, ?_, rfl⟩, by simpa using h⟩
        have hlt := there_lt ht
        have hy := List.getElem?_eq_getElem hlt
        have := (place_is (t := third u v) hs hy).2 ⟨ht, rfl⟩
        rw [hy, num_inj (ok_at hok hy) (third_ok _ _) this]
      · simp at h
    · simp at h
  · rintro ⟨q, hq, ⟨u, v, z, h1, h2, h3, h4⟩, rfl⟩
    rw [h1, h2]
    simp only
    obtain ⟨h5, h6⟩ := (place_is (t := third u v) hs h3).1 (by rw [h4])
    rw [if_pos ⟨h5, by omega⟩, h6]
    simp
theorem mem_rowL {l : List Cd} {i : Nat} {x : A3} : ∀ {j : Nat}, x ∈ rowL l i j ↔ ∃ k, i < k ∧ k < j ∧ x ∈ item l i k
  | 0 => by simp [rowL]
  | j + 1 => by
    rw [rowL, List.mem_append, mem_rowL]
    constructor
    · rintro (⟨k, h1, h2, h3⟩ | h)
      · exact ⟨k, h1, by omega, h3⟩
      · split at h
        · exact ⟨j, by omega, by omega, h⟩
        · simp at h
    · rintro ⟨k, h1, h2, h3⟩
      rcases Nat.lt_or_ge k j with h | h
      · exact .inl ⟨k, h1, h, h3⟩
      · obtain rfl : k = j := by omega
        right; rw [if_pos h1]; exact h3
theorem mem_allL {l : List Cd} {x : A3} : ∀ {i : Nat}, x ∈ allL l i ↔ ∃ k j, k < i ∧ k < j ∧ j < l.length ∧ x ∈ item l k j
  | 0 => by simp [allL]
  | i + 1 => by
    rw [allL, List.mem_append, mem_allL, mem_rowL]
    constructor
    · rintro (⟨k, j, h1, h2, h3, h4⟩ | ⟨j, h1, h2, h3⟩)
      · exact ⟨k, j, by omega, h2, h3, h4⟩
      · exact ⟨i, j, by omega, h1, h2, h3⟩
    · rintro ⟨k, j, h1, h2, h3, h4⟩
      rcases Nat.lt_or_ge k i with h | h
      · exact .inl ⟨k, j, h, h2, h3, h4⟩
      · obtain rfl : k = i := by omega
        exact .inr ⟨j, h2, h3, h4⟩
/-- The lines of a hand. -/
theorem mem_lines {l : List Cd} {n : Nat} (hn : l.length = n) (hs : sorted l) (hok : l.all Cd.ok = true) {x : A3} :
    x ∈ allL l n ↔ ∃ i j q : Nat, i < j ∧ j < q ∧ q < n ∧ Tr l i j q ∧ x = ⟨(i : Int), (j : Int), (q : Int)⟩ := by
  rw [mem_allL]
  constructor
  · rintro ⟨i, j, h1, h2, h3, h4⟩
    obtain ⟨q, h5, h6, h7⟩ := (mem_item hs hok).1 h4
    have hq : q < l.length := by
      obtain ⟨_, _, _, _, _, h, _⟩ := h6
      exact (List.getElem?_eq_some_iff.1 h).1
    exact ⟨i, j, q, h2, h5, by omega, h6, h7⟩
  · rintro ⟨i, j, q, h1, h2, h3, h4, h5⟩
    exact ⟨i, j, by omega, h1, by omega, (mem_item hs hok).2 ⟨q, h2, h4, h5⟩⟩
theorem item_fst {l : List Cd} {i j : Nat} {x : A3} (h : x ∈ item l i j) : x.a = i ∧ x.b = j := by
  unfold item at h
  split at h
  · split at h
    · rw [List.mem_singleton] at h; subst h; exact ⟨rfl, rfl⟩
    · simp at h
  · simp at h
theorem item_one {l : List Cd} {i j : Nat} : ascL (item l i j) := by
  unfold item ascL
  split
  · split <;> simp
  · simp
theorem rowL_asc (l : List Cd) (i : Nat) : ∀ j : Nat, ascL (rowL l i j)
  | 0 => List.Pairwise.nil
  | j + 1 => by
    unfold ascL
    rw [rowL, List.pairwise_append]
    refine ⟨rowL_asc l i j, ?_, ?_⟩
    · split
      · exact item_one
      · exact List.Pairwise.nil
    · intro x hx y hy
      obtain ⟨k, h1, h2, h3⟩ := mem_rowL.1 hx
      split at hy
      · have e1 := item_fst h3
        have e2 := item_fst hy
        exact decide_eq_true (by omega)
      · simp at hy
theorem lines_asc (l : List Cd) : ∀ n : Nat, ascL (allL l n)
  | 0 => List.Pairwise.nil
  | n + 1 => by
    unfold ascL
    rw [allL, List.pairwise_append]
    refine ⟨lines_asc l n, rowL_asc l n _, ?_⟩
    intro x hx y hy
    obtain ⟨k, j, h1, h2, h3, h4⟩ := mem_allL.1 hx
    obtain ⟨j', h5, h6, h7⟩ := mem_rowL.1 hy
    have e1 := item_fst h4
    have e2 := item_fst h7
    exact decide_eq_true (by omega)
/-- The line of two of its places. -/
theorem line_of {l : List Cd} {n : Nat} (hn : l.length = n) (hs : sorted l) (hok : l.all Cd.ok = true) {x : A3} (hx : x ∈ allL l n) {i j : Nat} (hi : inL x i = true) (hj : inL x j = true) (hij : i ≠ j) :
    ∃ q : Nat, Tr l i j q ∧ (∀ m : Int, inL x m = true ↔ m = i ∨ m = j ∨ m = q) ∧ x.a < x.b ∧ x.b < x.c := by
  obtain ⟨a, b, c, h1, h2, h3, h4, rfl⟩ := (mem_lines hn hs hok).1 hx
  unfold inL at hi hj
  have hi := of_decide_eq_true hi
  have hj := of_decide_eq_true hj
  simp only at hi hj
  have t1 := h4
  have t2 := t1.swap
  have t3 := t1.rot hok
  have t4 := t3.swap
  have t5 := t2.rot hok
  have t6 := t5.swap
  have key : ∃ q : Nat, Tr l i j q ∧ ((i = a ∧ j = b ∧ q = c) ∨ (i = b ∧ j = a ∧ q = c) ∨ (i = a ∧ j = c ∧ q = b) ∨ (i = c ∧ j = a ∧ q = b) ∨ (i = b ∧ j = c ∧ q = a) ∨ (i = c ∧ j = b ∧ q = a)) := by
    rcases hi with hi | hi | hi <;> rcases hj with hj | hj | hj
    · omega
    · obtain rfl : a = i := by omega
      obtain rfl : b = j := by omega
      exact ⟨c, t1, by simp⟩
    · obtain rfl : a = i := by omega
      obtain rfl : c = j := by omega
      exact ⟨b, t3, by simp⟩
    · obtain rfl : b = i := by omega
      obtain rfl : a = j := by omega
      exact ⟨c, t2, by simp⟩
    · omega
    · obtain rfl : b = i := by omega
      obtain rfl : c = j := by omega
      exact ⟨a, t5, by simp⟩
    · obtain rfl : c = i := by omega
      obtain rfl : a = j := by omega
      exact ⟨b, t4, by simp⟩
    · obtain rfl : c = i := by omega
      obtain rfl : b = j := by omega
      exact ⟨a, t6, by simp⟩
    · omega
  obtain ⟨q, ht, hq⟩ := key
  refine ⟨q, ht, fun m => ?_, by simp only; omega, by simp only; omega⟩
  unfold inL
  rw [decide_eq_true_eq]
  simp only
  omega
theorem two_lines {l : List Cd} {n : Nat} (hn : l.length = n) (hs : sorted l) (hok : l.all Cd.ok = true) {x y : A3} (hx : x ∈ allL l n) (hy : y ∈ allL l n) {i j : Nat} (hij : i ≠ j)
    (h1 : inL x i = true) (h2 : inL x j = true) (h3 : inL y i = true) (h4 : inL y j = true) : x = y := by
  obtain ⟨q, t1, e1, f1, f2⟩ := line_of hn hs hok hx h1 h2 hij
  obtain ⟨q', t2, e2, g1, g2⟩ := line_of hn hs hok hy h3 h4 hij
  obtain rfl := t1.uniq hs t2
  have k : ∀ m : Int, inL x m = true ↔ inL y m = true := fun m => (e1 m).trans (e2 m).symm
  obtain ⟨xa, xb, xc⟩ := x
  obtain ⟨ya, yb, yc⟩ := y
  have k1 := (k xa).1 (by simp [inL])
  have k2 := (k xb).1 (by simp [inL])
  have k3 := (k xc).1 (by simp [inL])
  have k4 := (k ya).2 (by simp [inL])
  have k5 := (k yb).2 (by simp [inL])
  have k6 := (k yc).2 (by simp [inL])
  simp only [inL, decide_eq_true_eq] at k1 k2 k3 k4 k5 k6 f1 f2 g1 g2
  have : xa = ya ∧ xb = yb ∧ xc = yc := by omega
  obtain ⟨rfl, rfl, rfl⟩ := this
  rfl
/-- Has the third card of two places its place in the hand? -/
def hasT (l : List Cd) (i k : Nat) : Bool := match l[i]?, l[k]? with
  | some x, some y => there l (third x y)
  | _, _ => false
theorem hasT_iff {l : List Cd} (hs : sorted l) (hok : l.all Cd.ok = true) {i k : Nat} : hasT l i k = true ↔ ∃ q, Tr l i k q := by
  unfold hasT
  constructor
  · intro h
    split at h
    · rename_i u v h1 h2
      have hlt := there_lt h
      have hy := List.getElem?_eq_getElem hlt
      have := (place_is (t := third u v) hs hy).2 ⟨h, rfl⟩
      exact ⟨_, u, v, third u v, h1, h2, by rw [hy, num_inj (ok_at hok hy) (third_ok _ _) this], rfl⟩
    · cases h
  · rintro ⟨q, u, v, z, h1, h2, h3, h4⟩
    rw [h1, h2]
    exact ((place_is (t := third u v) hs h3).1 (by rw [h4])).1
/-- All pairs of places, the greater one first. -/
def prsP (n : Nat) : List (Int × Int) := (List.range n).flatMap fun i => (List.range i).map fun k : Nat => ((i : Int), (k : Int))
theorem mem_prsP {n : Nat} {u : Int × Int} : u ∈ prsP n ↔ ∃ i k : Nat, i < n ∧ k < i ∧ u = ((i : Int), (k : Int)) := by
  unfold prsP
  simp only [List.mem_flatMap, List.mem_range, List.mem_map]
  constructor
  · rintro ⟨i, hi, k, hk, rfl⟩; exact ⟨i, k, hi, hk, rfl⟩
  · rintro ⟨i, k, hi, hk, rfl⟩; exact ⟨i, hi, k, hk, rfl⟩
theorem prsP_nodup (n : Nat) : (prsP n).Nodup := by
  unfold prsP List.Nodup
  rw [List.pairwise_flatMap]
  constructor
  · intro i _
    rw [List.pairwise_map]
    refine (List.nodup_range (n := i)).imp ?_
    intro a b h e
    injection e with _ e
    omega
  · refine (List.nodup_range (n := n)).imp ?_
    intro a b h x hx y hy e
    obtain ⟨_, _, rfl⟩ := List.mem_map.1 hx
    obtain ⟨_, _, rfl⟩ := List.mem_map.1 hy
    injection e with e _
    omega
def hasU (l : List Cd) (u : Int × Int) : Bool := hasT l u.1.toNat u.2.toNat
theorem three_lines {l : List Cd} {n : Nat} (hn : l.length = n) (hs : sorted l) (hok : l.all Cd.ok = true) :
    ((prsP n).filter (hasU l)).length = 3 * (allL l n).length := by
  have hperm : ((prsP n).filter (hasU l)).Perm ((allL l n).flatMap fun x => [(x.b, x.a), (x.c, x.a), (x.c, x.b)]) := by
    refine (List.perm_ext_iff_of_nodup ((prsP_nodup n).sublist List.filter_sublist) ?_).2 ?_
    · unfold List.Nodup
      rw [List.pairwise_flatMap]
      constructor
      · intro x hx
        obtain ⟨a, b, c, h1, h2, h3, h4, rfl⟩ := (mem_lines hn hs hok).1 hx
        simp
        omega
      · refine (lines_asc l n).imp_of_mem ?_
        intro x y hx hy hb u hu v hv e
        subst e
        have hne : x ≠ y := by
          rintro rfl
          unfold befL at hb
          have := of_decide_eq_true hb
          omega
        obtain ⟨a, b, c, h1, h2, h3, h4, rfl⟩ := (mem_lines hn hs hok).1 hx
        obtain ⟨a', b', c', k1, k2, k3, k4, rfl⟩ := (mem_lines hn hs hok).1 hy
        have two : ∃ i j : Nat, i ≠ j ∧ u = ((i : Int), (j : Int)) ∧ inL ⟨(a : Int), (b : Int), (c : Int)⟩ (i : Int) = true ∧ inL ⟨(a : Int), (b : Int), (c : Int)⟩ (j : Int) = true := by
          simp only [List.mem_cons, List.not_mem_nil, or_false] at hu
          rcases hu with rfl | rfl | rfl
          · exact ⟨b, a, by omega, rfl, by simp [inL], by simp [inL]⟩
          · exact ⟨c, a, by omega, rfl, by simp [inL], by simp [inL]⟩
          · exact ⟨c, b, by omega, rfl, by simp [inL], by simp [inL]⟩
        obtain ⟨i, j, hij, rfl, g1, g2⟩ := two
        have g3 : inL ⟨(a' : Int), (b' : Int), (c' : Int)⟩ (i : Int) = true ∧ inL ⟨(a' : Int), (b' : Int), (c' : Int)⟩ (j : Int) = true := by
          simp only [List.mem_cons, List.not_mem_nil, or_false, Prod.mk.injEq] at hv
          rcases hv with ⟨e1, e2⟩ | ⟨e1, e2⟩ | ⟨e1, e2⟩ <;> (rw [e1, e2]; simp [inL])
        exact hne (two_lines hn hs hok hx hy hij g1 g2 g3.1 g3.2)
    · intro u
      rw [List.mem_filter, mem_prsP, List.mem_flatMap]
      constructor
      · rintro ⟨⟨i, k, hi, hk, rfl⟩, h⟩
        obtain ⟨q, hq⟩ := (hasT_iff hs hok).1 (show hasT l i k = true from h)
        have hqn : q < n := by
          obtain ⟨_, _, _, _, _, h, _⟩ := hq
          have := (List.getElem?_eq_some_iff.1 h).1; omega
        have hqi : q ≠ i := by
          rintro rfl
          have t := hq.rot hok
          obtain ⟨u, v, z, g1, g2, g3, g4⟩ := t
          rw [g1] at g2; injection g2 with g2; subst g2
          have := third_third (y := u) (ok_at hok g1)
          -- z = third u u
          obtain ⟨u', v', z', f1, f2, f3, f4⟩ := hq
          rw [g1] at f1; injection f1 with f1; subst f1
          rw [g1] at f3; injection f3 with f3; subst f3
          rw [g3] at f2; injection f2 with f2; subst f2
          have huz : third u u = u := by
            have hb := ok_at hok g1
            unfold Cd.ok at hb
            have hb := of_decide_eq_true hb
            obtain ⟨ua, ub, uc, ud⟩ := u
            simp only [third, Cd.mk.injEq]
            simp only at hb
            omega
          rw [huz] at g4
          rw [g4] at g3
          have := at_inj hs g3 g1
          omega
        have hqk : q ≠ k := by
          rintro rfl
          obtain ⟨u, v, z, g1, g2, g3, g4⟩ := hq
          rw [g2] at g3; injection g3 with g3; subst g3
          have e := third_third (y := u) (ok_at hok g2)
          have h2 : third v u = v := by rw [third_sym]; exact g4.symm
          rw [h2] at e
          have h3 := third_third (y := v) (ok_at hok g1)
          have h4 : third u v = v := g4.symm
          rw [h4] at h3
          have huz : third v v = v := by
            have hb := ok_at hok g2
            unfold Cd.ok at hb
            have hb := of_decide_eq_true hb
            obtain ⟨ua, ub, uc, ud⟩ := v
            simp only [third, Cd.mk.injEq]
            simp only at hb
            omega
          rw [huz] at h3
          subst h3
          have := at_inj hs g1 g2
          omega
        have t1 := hq
        have t2 := t1.swap
        have t3 := t1.rot hok
        have t4 := t3.swap
        have t5 := t2.rot hok
        have t6 := t5.swap
        rcases Nat.lt_trichotomy q k with h1 | h1 | h1
        · exact ⟨⟨(q : Int), (k : Int), (i : Int)⟩, (mem_lines hn hs hok).2 ⟨q, k, i, h1, hk, hi, by first | exact t1 | exact t2 | exact t3 | exact t4 | exact t5 | exact t6, rfl⟩, by simp⟩
        · omega
        · rcases Nat.lt_trichotomy q i with h2 | h2 | h2
          · exact ⟨⟨(k : Int), (q : Int), (i : Int)⟩, (mem_lines hn hs hok).2 ⟨k, q, i, h1, h2, hi, by first | exact t1 | exact t2 | exact t3 | exact t4 | exact t5 | exact t6, rfl⟩, by simp⟩
          · omega
          · exact ⟨⟨(k : Int), (i : Int), (q : Int)⟩, (mem_lines hn hs hok).2 ⟨k, i, q, hk, h2, hqn, by first | exact t1 | exact t2 | exact t3 | exact t4 | exact t5 | exact t6, rfl⟩, by simp⟩
      · rintro ⟨x, hx, hu⟩
        obtain ⟨a, b, c, h1, h2, h3, h4, rfl⟩ := (mem_lines hn hs hok).1 hx
        have t1 := h4
        have t2 := t1.swap
        have t3 := t1.rot hok
        have t4 := t3.swap
        have t5 := t2.rot hok
        have t6 := t5.swap
        simp only [List.mem_cons, List.not_mem_nil, or_false] at hu
        rcases hu with rfl | rfl | rfl
        · exact ⟨⟨b, a, by omega, h1, rfl⟩, (hasT_iff hs hok).2 ⟨c, t2⟩⟩
        · exact ⟨⟨c, a, h3, by omega, rfl⟩, (hasT_iff hs hok).2 ⟨b, t4⟩⟩
        · exact ⟨⟨c, b, h3, h2, rfl⟩, (hasT_iff hs hok).2 ⟨a, t6⟩⟩
  rw [hperm.length_eq]
  generalize allL l n = ls
  induction ls with
  | nil => rfl
  | cons x r ih => rw [List.flatMap_cons, List.length_append, ih]; simp; omega
theorem prsP_len (n : Nat) : 2 * (prsP n).length = n * (n - 1) := by
  induction n with
  | zero => rfl
  | succ n ih =>
    unfold prsP at ih ⊢
    rw [List.range_succ, List.flatMap_append, List.length_append, Nat.mul_add, ih]
    simp
    cases n with
    | zero => rfl
    | succ m => simp [Nat.mul_add, Nat.add_mul]; omega
/-- Pairs without third card: row by row, as the model counts them. -/
def opR (l : List Cd) (i : Nat) : Nat → Nat
  | 0 => 0
  | k + 1 => opR l i k + (if hasT l i k = true then 0 else 1)
def opA (l : List Cd) : Nat → Nat
  | 0 => 0
  | i + 1 => opA l i + opR l i i
theorem opR_is (l : List Cd) (i : Nat) : ∀ k : Nat, opR l i k = (((List.range k).map fun k : Nat => ((i : Int), (k : Int))).filter (fun u => !hasU l u)).length
  | 0 => rfl
  | k + 1 => by
    rw [opR, opR_is l i k, List.range_succ, List.map_append, List.filter_append, List.length_append]
    congr 1
    have : hasU l ((i : Int), (k : Int)) = hasT l i k := rfl
    cases h : hasT l i k <;> simp [this, h]
theorem opA_is (l : List Cd) : ∀ n : Nat, opA l n = ((prsP n).filter (fun u => !hasU l u)).length
  | 0 => rfl
  | n + 1 => by
    rw [opA, opA_is l n, opR_is]
    unfold prsP
    rw [List.range_succ, List.flatMap_append, List.filter_append, List.length_append]
    simp
theorem filt_len {α : Type} (p : α → Bool) : ∀ l : List α, (l.filter p).length + (l.filter (fun x => !p x)).length = l.length
  | [] => rfl
  | x :: r => by
    have := filt_len p r
    cases h : p x <;> simp [h] <;> omega
/-- The pairs that are open, and the lines. -/
theorem open_lines {l : List Cd} {n : Nat} (hn : l.length = n) (hs : sorted l) (hok : l.all Cd.ok = true) : 2 * opA l n + 6 * (allL l n).length = n * (n - 1) := by
  have h1 := three_lines hn hs hok
  have h2 := filt_len (hasU l) (prsP n)
  have h3 := prsP_len n
  rw [opA_is]
  omega

/-- How many lines of a list have a place. -/
def cnt (ls : List A3) (p : Int) : Nat := ls.countP (fun x => inL x p)
def C2 (m : Nat) : Nat := m * (m - 1) / 2
theorem C2_step (m : Nat) : C2 (m + 1) = C2 m + m := by
  unfold C2
  cases m with
  | zero => rfl
  | succ k =>
    have e : (k + 1 + 1) * (k + 1 + 1 - 1) = (k + 1) * (k + 1 - 1) + (k + 1) * 2 := by
      simp [Nat.mul_add, Nat.add_mul]; omega
    rw [e, Nat.add_mul_div_right _ _ (by omega)]
def bit (b : Bool) : Nat := if b then 1 else 0
/-- How many places two lines have in common: the model's count. -/
def com (x y : A3) : Nat :=
  bit (decide (x.a = y.a)) + bit (decide (x.a = y.b)) + bit (decide (x.a = y.c)) + (bit (decide (x.b = y.a)) + bit (decide (x.b = y.b)) + bit (decide (x.b = y.c))) + (bit (decide (x.c = y.a)) + bit (decide (x.c = y.b)) + bit (decide (x.c = y.c)))
theorem com_meet (x y : A3) : decide (0 < com x y) = meet x y := by
  rw [Bool.eq_iff_iff, decide_eq_true_eq]
  unfold com meet inL bit
  simp only [decide_eq_true_eq, Bool.or_eq_true]
  constructor
  · intro h
    refine Classical.byContradiction fun hn => ?_
    rw [if_neg (by omega), if_neg (by omega), if_neg (by omega), if_neg (by omega), if_neg (by omega), if_neg (by omega), if_neg (by omega), if_neg (by omega), if_neg (by omega)] at h
    omega
  · rintro ((h | h) | h) <;> rcases h with h | h | h <;> (simp only [if_pos h]; omega)
theorem com_three {x y : A3} (hy : y.a < y.b ∧ y.b < y.c) : com x y = bit (inL y x.a) + bit (inL y x.b) + bit (inL y x.c) := by
  unfold com inL bit
  simp only [decide_eq_true_eq]
  have key : ∀ v : Int, ((if v = y.a then 1 else 0) + (if v = y.b then 1 else 0) + (if v = y.c then 1 else 0) : Nat) = if y.a = v ∨ y.b = v ∨ y.c = v then 1 else 0 := by
    intro v
    by_cases h1 : v = y.a
    · rw [if_pos h1, if_neg (by omega), if_neg (by omega), if_pos (by omega)]
    · by_cases h2 : v = y.b
      · rw [if_neg h1, if_pos h2, if_neg (by omega), if_pos (by omega)]
      · by_cases h3 : v = y.c
        · rw [if_neg h1, if_neg h2, if_pos h3, if_pos (by omega)]
        · rw [if_neg h1, if_neg h2, if_neg h3, if_neg (by omega)]
  rw [key, key, key]
/-- A sum over all places below n. -/
def sm : Nat → (Nat → Nat) → Nat
  | 0, _ => 0
  | n + 1, f => sm n f + f n
theorem sm_add (f g : Nat → Nat) : ∀ n, sm n (fun p => f p + g p) = sm n f + sm n g
  | 0 => rfl
  | n + 1 => by simp only [sm]; rw [sm_add f g n]; omega
theorem sm_ext {f g : Nat → Nat} : ∀ {n}, (∀ p, p < n → f p = g p) → sm n f = sm n g
  | 0, _ => rfl
  | n + 1, h => by simp only [sm]; rw [sm_ext (fun p hp => h p (by omega)), h n (by omega)]
theorem sm_zero : ∀ n, sm n (fun _ => 0) = 0
  | 0 => rfl
  | n + 1 => by simp only [sm]; rw [sm_zero n]
theorem sm_one (g : Nat → Nat) (a : Nat) : ∀ n, sm n (fun p => if a = p then g p else 0) = if a < n then g a else 0
  | 0 => by simp [sm]
  | n + 1 => by
    simp only [sm]
    rw [sm_one g a n]
    rcases Nat.lt_trichotomy a n with h | h | h
    · rw [if_pos h, if_neg (by omega), if_pos (by omega)]; rfl
    · subst h; rw [if_neg (by omega), if_pos rfl, if_pos (by omega)]; omega
    · rw [if_neg (by omega), if_neg (by omega), if_neg (by omega)]
theorem sm_three (g : Nat → Nat) {n a b c : Nat} (h1 : a < b) (h2 : b < c) (h3 : c < n) : sm n (fun p => if inL ⟨(a : Int), (b : Int), (c : Int)⟩ (p : Int) = true then g p else 0) = g a + g b + g c := by
  have e : sm n (fun p => if inL ⟨(a : Int), (b : Int), (c : Int)⟩ (p : Int) = true then g p else 0) = sm n (fun p => ((if a = p then g p else 0) + (if b = p then g p else 0)) + (if c = p then g p else 0)) := by
    refine sm_ext fun p _ => ?_
    unfold inL
    simp only [decide_eq_true_eq]
    by_cases e1 : a = p
    · have n2 : ¬ b = p := by omega
      have n3 : ¬ c = p := by omega
      rw [if_pos e1, if_neg n2, if_neg n3, if_pos (by omega)]; omega
    · by_cases e2 : b = p
      · have n3 : ¬ c = p := by omega
        rw [if_neg e1, if_pos e2, if_neg n3, if_pos (by omega)]; omega
      · by_cases e3 : c = p
        · rw [if_neg e1, if_neg e2, if_pos e3, if_pos (by omega)]; omega
        · rw [if_neg e1, if_neg e2, if_neg e3, if_neg (by omega)]
  rw [e, sm_add, sm_add, sm_one, sm_one, sm_one, if_pos (by omega), if_pos (by omega), if_pos (by omega)]
/-- The pairs of lines that cross: as the model counts them. -/
def crR (ls : List A3) (x : A3) : Nat → Nat
  | 0 => 0
  | k + 1 => crR ls x k + (match ls[k]? with | some y => bit (decide (com x y = 1)) | none => 0)
def crA (ls : List A3) : Nat → Nat
  | 0 => 0
  | i + 1 => crA ls i + (match ls[i]? with | some x => crR ls x i | none => 0)
theorem cnt_snoc (ls : List A3) (x : A3) (p : Int) : cnt (ls ++ [x]) p = cnt ls p + bit (inL x p) := by
  unfold cnt bit
  rw [List.countP_append, List.countP_singleton]
theorem crR_is {ls : List A3} {x : A3} (h : ∀ y, y ∈ ls → (y.a < y.b ∧ y.b < y.c)) (hx : ∀ k y, ls[k]? = some y → k < ls.length → ∀ m, k < m → (ls[m]? = some x → com x y ≤ 1)) {m : Nat} (hm : ls[m]? = some x) :
    ∀ k, k ≤ m → crR ls x k = cnt (ls.take k) x.a + cnt (ls.take k) x.b + cnt (ls.take k) x.c
  | 0, _ => by simp [crR, cnt]
  | k + 1, hk => by
    have hml := (List.getElem?_eq_some_iff.1 hm).1
    have hkl : k < ls.length := by omega
    have hg := List.getElem?_eq_getElem hkl
    rw [crR, crR_is h hx hm k (by omega), List.take_add_one, hg]
    simp only [Option.toList_some]
    rw [cnt_snoc, cnt_snoc, cnt_snoc]
    have h1 := hx k _ hg hkl m (by omega) hm
    have h2 := com_three (x := x) (h _ (List.getElem_mem hkl))
    have h3 : bit (decide (com x ls[k] = 1)) = com x ls[k] := by
      unfold bit
      simp only [decide_eq_true_eq]
      split <;> omega
    rw [h3, h2]
    omega
theorem cross_sum {l : List Cd} {n : Nat} (hn : l.length = n) (hs : sorted l) (hok : l.all Cd.ok = true) :
    ∀ i, i ≤ (allL l n).length → sm n (fun p => C2 (cnt ((allL l n).take i) (p : Int))) = crA (allL l n) i
  | 0, _ => by
    have : (fun p : Nat => C2 (cnt ((allL l n).take 0) (p : Int))) = fun _ => 0 := by funext p; simp [cnt, C2]
    rw [this, sm_zero]; rfl
  | i + 1, hi => by
    have hg := List.getElem?_eq_getElem (show i < (allL l n).length by omega)
    obtain ⟨x, hx⟩ : ∃ x, (allL l n)[i] = x := ⟨_, rfl⟩
    rw [hx] at hg
    have hxm : x ∈ allL l n := List.mem_of_getElem? hg
    have ho : ∀ y, y ∈ allL l n → (y.a < y.b ∧ y.b < y.c) := fun y hy => by
      obtain ⟨a, b, c, h1, h2, h3, h4, rfl⟩ := (mem_lines hn hs hok).1 hy
      simp only; omega
    have hc : ∀ k y, (allL l n)[k]? = some y → k < (allL l n).length → ∀ m, k < m → ((allL l n)[m]? = some x → com x y ≤ 1) := by
      intro k y hy _ m hkm hm
      have hym : y ∈ allL l n := List.mem_of_getElem? hy
      have hb : befL y x = true := by
        obtain ⟨q1, e1⟩ := List.getElem?_eq_some_iff.1 hy
        obtain ⟨q2, e2⟩ := List.getElem?_eq_some_iff.1 hm
        have := List.pairwise_iff_getElem.1 (lines_asc l n) k m q1 q2 hkm
        rw [e1, e2] at this; exact this
      have hne : x ≠ y := by
        rintro rfl
        unfold befL at hb
        have := of_decide_eq_true hb
        omega
      rw [com_three (ho y hym)]
      obtain ⟨a, b, c, h1, h2, h3, h4, rfl⟩ := (mem_lines hn hs hok).1 hxm
      have T := fun (i j : Nat) (hij : i ≠ j) (g1 : inL ⟨(a : Int), (b : Int), (c : Int)⟩ (i : Int) = true) (g2 : inL ⟨(a : Int), (b : Int), (c : Int)⟩ (j : Int) = true) (g3 : inL y (i : Int) = true) (g4 : inL y (j : Int) = true) => hne (two_lines hn hs hok hxm hym hij g1 g2 g3 g4)
      have t1 := T a b (by omega) (by simp [inL]) (by simp [inL])
      have t2 := T a c (by omega) (by simp [inL]) (by simp [inL])
      have t3 := T b c (by omega) (by simp [inL]) (by simp [inL])
      simp only
      revert t1 t2 t3
      cases inL y (a : Int) <;> cases inL y (b : Int) <;> cases inL y (c : Int) <;> simp [bit]
    rw [crA, hg, List.take_add_one, hg]
    simp only [Option.toList_some]
    have e : (fun p : Nat => C2 (cnt ((allL l n).take i ++ [x]) (p : Int))) = fun p : Nat => C2 (cnt ((allL l n).take i) (p : Int)) + (if inL x (p : Int) = true then cnt ((allL l n).take i) (p : Int) else 0) := by
      funext p
      rw [cnt_snoc]
      unfold bit
      split
      · rw [C2_step]
      · rfl
    rw [e, sm_add, cross_sum hn hs hok i (by omega), crR_is ho hc hg i (Nat.le_refl _)]
    obtain ⟨a, b, c, h1, h2, h3, h4, rfl⟩ := (mem_lines hn hs hok).1 hxm
    rw [sm_three _ h1 h2 h3]
/-- The lines of each place: what is counted. -/
def cnts (ls : List A3) (n : Nat) : List Int := (List.range n).map fun p : Nat => ((cnt ls (p : Int) : Nat) : Int)
theorem cnts_len (ls : List A3) (n : Nat) : (cnts ls n).length = n := by simp [cnts]
theorem cnts_nil (n : Nat) : cnts [] n = List.replicate n 0 := by
  apply List.ext_getElem?
  intro j
  by_cases h : j < n
  · simp [cnts, cnt, h]
  · simp [cnts, h]
theorem cnts_at (ls : List A3) {n p : Nat} (h : p < n) : (cnts ls n)[p]? = some ((cnt ls (p : Int) : Nat) : Int) := by simp [cnts, h]
/-- A line more is counted at its three places. -/
def inc (l : List Int) (p : Nat) : List Int := l.set p (l.getD p 0 + 1)
theorem inc_len (l : List Int) (p : Nat) : (inc l p).length = l.length := by simp [inc]
theorem inc_at (l : List Int) (p j : Nat) : (inc l p)[j]? = if p = j then (l[j]?).map (· + 1) else l[j]? := by
  unfold inc
  rw [List.getElem?_set]
  split
  · rename_i h
    subst h
    by_cases hl : p < l.length
    · simp [hl]
    · simp [hl]
  · rfl
theorem cnts_more (ls : List A3) {n a b c : Nat} (h1 : a < b) (h2 : b < c) (h3 : c < n) : inc (inc (inc (cnts ls n) a) b) c = cnts (ls ++ [⟨(a : Int), (b : Int), (c : Int)⟩]) n := by
  apply List.ext_getElem?
  intro j
  rw [inc_at, inc_at, inc_at]
  by_cases hj : j < n
  · rw [cnts_at _ hj, cnts_at _ hj, cnt_snoc]
    unfold bit inL
    simp only [decide_eq_true_eq]
    by_cases e1 : a = j
    · rw [if_neg (by omega), if_neg (by omega), if_pos e1, if_pos (by omega)]; simp
    · by_cases e2 : b = j
      · rw [if_neg (by omega), if_pos e2, if_neg e1, if_pos (by omega)]; simp
      · by_cases e3 : c = j
        · rw [if_pos e3, if_neg e2, if_neg e1, if_pos (by omega)]; simp
        · rw [if_neg e3, if_neg e2, if_neg e1, if_neg (by omega)]; simp
  · have e : ∀ ls, (cnts ls n)[j]? = none := fun ls => by simp [cnts, hj]
    rw [e, e]; simp
theorem cnt_le (ls : List A3) (p : Int) : cnt ls p ≤ ls.length := List.countP_le_length
theorem cnt_filter (ls : List A3) (p : Int) : (ls.filter (fun x => inL x p)).length = cnt ls p := by unfold cnt; rw [List.countP_eq_length_filter]
end Go.Proofs.Yteccbcbijfcpmaa.parting

/- Numbers looked for in slices of numbers. -/
namespace Go.Proofs.Yteccbcbijfcpmaa.maps
open Go.RowKit
open cards
set_option linter.unusedVariables false

/-- The place of a number in a list, or -1. -/
def fiI (c : Int) : List Int → Nat
  | [] => 0
  | x :: r => if c = x then 0 else fiI c r + 1
def posI (l : List Int) (c : Int) : Int := if c ∈ l then (fiI c l : Int) else -1
theorem fiI_at : ∀ {l : List Int} {c : Int} {k : Nat}, l[k]? = some c → (∀ (j : Nat) y, j < k → l[j]? = some y → c ≠ y) → fiI c l = k
  | [], c, k, h, _ => by simp at h
  | y :: r, c, 0, h, _ => by
    obtain rfl : y = c := by simpa using h
    simp [fiI]
  | y :: r, c, k + 1, h, hu => by
    have h0 := hu 0 y (by omega) rfl
    have ih := fiI_at (l := r) (k := k) (by simpa using h) (fun j z hj hz => hu (j + 1) z (by omega) (by simpa using hz))
    simp [fiI, h0, ih]
theorem posI_at {l : List Int} {c : Int} {k : Nat} (h : l[k]? = some c) (hu : ∀ (j : Nat) y, j < k → l[j]? = some y → c ≠ y) : (k : Int) = posI l c := by
  unfold posI
  rw [if_pos (List.mem_of_getElem? h), fiI_at h hu]
theorem posI_none {l : List Int} {c : Int} (hu : ∀ (j : Nat) y, l[j]? = some y → c ≠ y) : -1 = posI l c := by
  unfold posI
  rw [if_neg (fun h => by obtain ⟨j, hj⟩ := List.mem_iff_getElem?.1 h; exact hu j c hj rfl)]

set_option maxRecDepth 100000 in
set_option maxHeartbeats 2000000 in
theorem index_int (l : List Int) (c : Int) (p : Option Addr) (n cp : Nat) (w : World) (hn : l.length = n) (hl : n ≤ 1000000000) (hr : Rd w p (ints l)) :
    Calls Try.prog 89 #[.slice p n cp, .int .i64 c] w fun e w' => e = .returned (.int .i64 (posI l c)) ∧ Below w.heap.size w w' := by
  have HN := Lib.hid hn
  have HR := Lib.hid hr
  clear hn hr
  go_enter Try.func89, Try.ntmps89
  go_wp2_with fail
  go_loopw [5, 8] (fun _ i wr => ∃ k : Nat, k ≤ n ∧ i = .int .i64 k ∧ Hid (∀ (j : Nat) y, j < k → l[j]? = some y → c ≠ y) ∧ Hid (Below w.heap.size w wr)) (fun _ i _ => n - (intOf i).toNat)
  case atStart => exact ⟨0, Nat.zero_le _, rfl, fun j y h => by omega, Lib.hid (by repeat (first | with_reducible exact Below.refl _ _ | with_reducible exact HB.out | with_reducible apply Below.drew | with_reducible apply bdN | with_reducible refine Below.alloc ?_ (by first | exact Nat.le_refl _ | with_reducible exact HB.out.size | omega | (simp; done) | (simp; omega) | (have := HB.out.size; simp at *; omega)) _ | with_reducible refine Below.setCell ?_ (by first | exact Nat.le_refl _ | with_reducible exact HB.out.size | omega | (simp; done) | (simp; omega) | (have := HB.out.size; simp at *; omega)) _))⟩
  case round =>
    obtain ⟨k, hk, rfl, HU, HB⟩ := hrel
    by_cases hlt : k < n
    · obtain ⟨b, o, x, rfl, hb, hx, c0⟩ := (HR.out.below HB.out).int (k := k) (by rw [HN.out]; exact hlt)
      have HX := Lib.hid hx
      clear hx
      have m0 : (0 : Int) ≤ (k : Int) := by omega
      have m1 : (k : Int) < (n : Int) := by omega
      by_cases hs : c = x
      · have HP := Lib.hid (show (k : Int) = posI l c from posI_at (by rw [hs]; exact HX.out) HU.out)
        subst hs
        go_wp2_with fail
        go_ret
        exact ⟨ret_int HP.out, HB.out⟩
      · have HU1 := Lib.hid (show ∀ (j : Nat) y, j < k + 1 → l[j]? = some y → c ≠ y from fun j y hj hy => by
          rcases Nat.lt_or_ge j k with h | h
          · exact HU.out j y h hy
          · obtain rfl : j = k := by omega
            have h1 := HX.out; rw [hy] at h1; injection h1 with h1; subst h1; exact hs)
        have hd : (c == x) = false := by simp [hs]
        clear hs
        go_wp2_with fail
        go_roundw
        case rel => exact ⟨k + 1, by omega, by go_num, HU1, HB⟩
        case measure => simp [intOf]; omega
    · obtain rfl : k = n := by omega
      have HP := Lib.hid (show -1 = posI l c from posI_none (fun j y hy => HU.out j y (by rw [← HN.out]; exact (List.getElem?_eq_some_iff.1 hy).1) hy))
      go_wp2_with fail
      go_ret
      exact ⟨ret_int HP.out, HB.out⟩

set_option maxRecDepth 100000 in
set_option maxHeartbeats 2000000 in
theorem contains_int (l : List Int) (c : Int) (p : Option Addr) (n cp : Nat) (w : World) (hn : l.length = n) (hl : n ≤ 1000000000) (hr : Rd w p (ints l)) :
    Calls Try.prog 132 #[.slice p n cp, .int .i64 c] w fun e w' => e = .returned (.bool (decide (c ∈ l))) ∧ Below w.heap.size w w' := by
  have HR := Lib.hid hr
  have HP := Lib.hid (fun w' (hw : Rd w' p (ints l)) => index_int l c p n cp w' hn hl hw)
  clear hn hr
  go_enter Try.func132, Try.ntmps132
  by_cases ht : c ∈ l
  · have HT := Lib.hid (show decide (c ∈ l) = true from decide_eq_true ht)
    have HQ := HP.out
    unfold posI at HQ
    rw [if_pos ht] at HQ
    obtain ⟨q, hq⟩ : ∃ q, fiI c l = q := ⟨_, rfl⟩
    rw [hq] at HQ
    have HQ2 := Lib.hid HQ
    clear HQ HP ht hq
    go_wp2_with fail
    refine ((HQ2.out _ (by repeat (first | with_reducible exact HR.out | with_reducible apply Rd.drewN | with_reducible apply Rd.drew | with_reducible apply Rd.alloc)))).mono ?_
    rintro e w1 ⟨rfl, b⟩
    have Sw1 := Lib.hid b.size
    have HB := Lib.hid (chain0 (w := w) (by repeat (first | with_reducible exact Below.refl _ _ | with_reducible exact HB.out | with_reducible apply Below.drew | with_reducible apply bdN | with_reducible refine Below.alloc ?_ (by first | exact Nat.le_refl _ | with_reducible exact HB.out.size | omega | (simp; done) | (simp; omega) | (have := HB.out.size; simp at *; omega)) _ | with_reducible refine Below.setCell ?_ (by first | exact Nat.le_refl _ | with_reducible exact HB.out.size | omega | (simp; done) | (simp; omega) | (have := HB.out.size; simp at *; omega)) _)) b)
    have HR := Lib.hid (Rd.below (by repeat (first | with_reducible exact HR.out | with_reducible apply Rd.drewN | with_reducible apply Rd.drew | with_reducible apply Rd.alloc)) b)
    clear b
    go_wp2_with fail
    go_ret
    exact ⟨ret_bool (by rw [HT.out]), by repeat (first | with_reducible exact Below.refl _ _ | with_reducible exact HB.out | with_reducible apply Below.drew | with_reducible apply bdN | with_reducible refine Below.alloc ?_ (by first | exact Nat.le_refl _ | with_reducible exact HB.out.size | omega | (simp; done) | (simp; omega) | (have := HB.out.size; simp at *; omega)) _ | with_reducible refine Below.setCell ?_ (by first | exact Nat.le_refl _ | with_reducible exact HB.out.size | omega | (simp; done) | (simp; omega) | (have := HB.out.size; simp at *; omega)) _)⟩
  · have HT := Lib.hid (show decide (c ∈ l) = false from decide_eq_false ht)
    have HQ := HP.out
    unfold posI at HQ
    rw [if_neg ht] at HQ
    have HQ2 := Lib.hid HQ
    clear HQ HP ht
    go_wp2_with fail
    refine ((HQ2.out _ (by repeat (first | with_reducible exact HR.out | with_reducible apply Rd.drewN | with_reducible apply Rd.drew | with_reducible apply Rd.alloc)))).mono ?_
    rintro e w1 ⟨rfl, b⟩
    have Sw1 := Lib.hid b.size
    have HB := Lib.hid (chain0 (w := w) (by repeat (first | with_reducible exact Below.refl _ _ | with_reducible exact HB.out | with_reducible apply Below.drew | with_reducible apply bdN | with_reducible refine Below.alloc ?_ (by first | exact Nat.le_refl _ | with_reducible exact HB.out.size | omega | (simp; done) | (simp; omega) | (have := HB.out.size; simp at *; omega)) _ | with_reducible refine Below.setCell ?_ (by first | exact Nat.le_refl _ | with_reducible exact HB.out.size | omega | (simp; done) | (simp; omega) | (have := HB.out.size; simp at *; omega)) _)) b)
    have HR := Lib.hid (Rd.below (by repeat (first | with_reducible exact HR.out | with_reducible apply Rd.drewN | with_reducible apply Rd.drew | with_reducible apply Rd.alloc)) b)
    clear b
    go_wp2_with fail
    go_ret
    exact ⟨ret_bool HT.out.symm, by repeat (first | with_reducible exact Below.refl _ _ | with_reducible exact HB.out | with_reducible apply Below.drew | with_reducible apply bdN | with_reducible refine Below.alloc ?_ (by first | exact Nat.le_refl _ | with_reducible exact HB.out.size | omega | (simp; done) | (simp; omega) | (have := HB.out.size; simp at *; omega)) _ | with_reducible refine Below.setCell ?_ (by first | exact Nat.le_refl _ | with_reducible exact HB.out.size | omega | (simp; done) | (simp; omega) | (have := HB.out.size; simp at *; omega)) _)⟩

end Go.Proofs.Yteccbcbijfcpmaa.maps

/- Blocks that hold three places, one number, one slice; lines compared; a place looked for in a line. -/
namespace Go.Proofs.Yteccbcbijfcpmaa.parting
open Go.RowKit
open cards maps
set_option linter.unusedVariables false

def TBox (w : World) (g : Nat) (x : A3) : Prop := w.heap[g]? = some x.obj
theorem TBox.lt {w : World} {g : Nat} {x : A3} (h : TBox w g x) : g < w.heap.size := by
  rcases Nat.lt_or_ge g w.heap.size with h1 | h1
  · exact h1
  · unfold TBox at h; rw [Array.getElem?_eq_none h1] at h; cases h
theorem TBox.newAt {w : World} {g : Nat} {x : A3} {o : Obj} (h : w.heap.size = g) (ho : o = x.obj) : TBox (w.alloc o) g x := by subst h; subst ho; exact heap_alloc_new w _
theorem TBox.alloc {w : World} {g : Nat} {x : A3} (h : TBox w g x) (o : Obj) : TBox (w.alloc o) g x := (Below.heap_alloc w o g h.lt).trans h
theorem TBox.drew {w : World} {g : Nat} {x : A3} (h : TBox w g x) : TBox w.drew g x := h
theorem TBox.drewN {w : World} {g : Nat} {x : A3} (h : TBox w g x) (n : Nat) : TBox (w.drewN n) g x := h
theorem TBox.below {w w1 : World} {g : Nat} {x : A3} (h : TBox w g x) (b : Below w.heap.size w w1) : TBox w1 g x := (b.block g h.lt).trans h
theorem TBox.under {w w1 : World} {g B : Nat} {x : A3} (h : TBox w g x) (hg : g < B) (b : Below B w w1) : TBox w1 g x := (b.block g hg).trans h
theorem TBox.cell {w : World} {g : Nat} {x : A3} (h : TBox w g x) : w.cell? ⟨g, 0, none⟩ = some (.int .i64 x.a) ∧ w.cell? ⟨g, 1, none⟩ = some (.int .i64 x.b) ∧ w.cell? ⟨g, 2, none⟩ = some (.int .i64 x.c) ∧ True := by
  unfold TBox at h
  exact ⟨by rw [cell_of_row w g 0 _ _ _ h]; rfl, by rw [cell_of_row w g 1 _ _ _ h]; rfl, by rw [cell_of_row w g 2 _ _ _ h]; rfl, trivial⟩
theorem TBox.marked {w w1 : World} {g : Nat} {x : A3} {row : Option Nat} (h : TBox w g x) (hg : w.grownBy w1 row) (h2 : ∀ k, row = some k → g < k) : TBox w1 g x :=
  (hg.block g h.lt (fun e => Nat.lt_irrefl _ (h2 g e.symm))).trans h
theorem TBox.rd {w : World} {g : Nat} {x : A3} (h : TBox w g x) : Rd w (some ⟨g, 0, none⟩) (ints [x.a, x.b, x.c]) := Rd.of_block h rfl
theorem TBox.far {w : World} {g : Nat} {x : A3} (h : TBox w g x) {p : Addr} (hp : g ≠ p.block) (u : Value) : TBox (w.setCell p u) g x := (Below.heap_setCell w p u g hp).trans h
def wf3 (x : A3) : Prop := (Lit.int .i64 x.a).wf = true ∧ (Lit.int .i64 x.b).wf = true ∧ (Lit.int .i64 x.c).wf = true
def lits3 (x : A3) : List Lit := [.int .i64 x.a, .int .i64 x.b, .int .i64 x.c]
theorem key3 (x : A3) (h : wf3 x) : (Try.prog).keyLits 3 40 x.val.cells.toList = some (lits3 x) := by
  obtain ⟨w1, w2, w3⟩ := h
  have ce : (Try.prog).cellsOf 3 = 1 := by kernel_rfl
  have ct : (Try.prog).cellsOf 40 = 3 := by kernel_rfl
  simp [Program.keyLits, Try.underlying40, Try.underlying3, Value.cells, ce, ct, w1, w2, w3, show List.range 3 = [0, 1, 2] from rfl, lits3]
theorem eq3 (x y : A3) (hx : wf3 x) (hy : wf3 y) (w : World) : (Op.equalIn 10000 40 x.val y.val).run Try.prog w = .ok (same3 x y) w := by
  obtain ⟨r, hr, hi⟩ := run_equalIn_deep (P := Try.prog) 9998 2 40 (by kernel_rfl) w 3 3 x.val y.val (lits3 x) (lits3 y) (by kernel_rfl) (by kernel_rfl) (key3 x hx) (key3 y hy)
  have e : r = same3 x y := by
    rw [Bool.eq_iff_iff, hi]
    simp [lits3, same3]
  rw [← e]
  exact hr

/-- The number at a place of a line. -/
def A3.get (x : A3) : Nat → Int
  | 0 => x.a
  | 1 => x.b
  | _ => x.c
theorem TBox.get {w : World} {g : Nat} {x : A3} (h : TBox w g x) {k : Nat} (hk : k < 3) : w.cell? ⟨g, k, none⟩ = some (.int .i64 (A3.get x k)) := by
  obtain ⟨a, b, c, _⟩ := h.cell
  match k, hk with
  | 0, _ => exact a
  | 1, _ => exact b
  | 2, _ => exact c
/-- A block with one number. -/
def IBox (w : World) (g : Nat) (i : Int) : Prop := w.heap[g]? = some (.cells #[.int .i64 i] 3)
theorem IBox.lt {w : World} {g : Nat} {x : Int} (h : IBox w g x) : g < w.heap.size := by
  rcases Nat.lt_or_ge g w.heap.size with h1 | h1
  · exact h1
  · unfold IBox at h; rw [Array.getElem?_eq_none h1] at h; cases h
theorem IBox.newAt {w : World} {g : Nat} {x : Int} {o : Obj} (h : w.heap.size = g) (ho : o = .cells #[.int .i64 x] 3) : IBox (w.alloc o) g x := by subst h; subst ho; exact heap_alloc_new w _
theorem IBox.alloc {w : World} {g : Nat} {x : Int} (h : IBox w g x) (o : Obj) : IBox (w.alloc o) g x := (Below.heap_alloc w o g h.lt).trans h
theorem IBox.drew {w : World} {g : Nat} {x : Int} (h : IBox w g x) : IBox w.drew g x := h
theorem IBox.drewN {w : World} {g : Nat} {x : Int} (h : IBox w g x) (n : Nat) : IBox (w.drewN n) g x := h
theorem IBox.below {w w1 : World} {g : Nat} {x : Int} (h : IBox w g x) (b : Below w.heap.size w w1) : IBox w1 g x := (b.block g h.lt).trans h
theorem IBox.cell {w : World} {g : Nat} {x : Int} (h : IBox w g x) : w.cell? ⟨g, 0, none⟩ = some (.int .i64 x) := (cell_of_row w g 0 _ _ _ h).trans rfl
/-- A block with one slice of lines. -/
def LBox (w : World) (g : Nat) (v : Value) : Prop := w.heap[g]? = some (.cells #[v] 111)
theorem LBox.lt {w : World} {g : Nat} {x : Value} (h : LBox w g x) : g < w.heap.size := by
  rcases Nat.lt_or_ge g w.heap.size with h1 | h1
  · exact h1
  · unfold LBox at h; rw [Array.getElem?_eq_none h1] at h; cases h
theorem LBox.newAt {w : World} {g : Nat} {x : Value} {o : Obj} (h : w.heap.size = g) (ho : o = .cells #[x] 111) : LBox (w.alloc o) g x := by subst h; subst ho; exact heap_alloc_new w _
theorem LBox.alloc {w : World} {g : Nat} {x : Value} (h : LBox w g x) (o : Obj) : LBox (w.alloc o) g x := (Below.heap_alloc w o g h.lt).trans h
theorem LBox.drew {w : World} {g : Nat} {x : Value} (h : LBox w g x) : LBox w.drew g x := h
theorem LBox.drewN {w : World} {g : Nat} {x : Value} (h : LBox w g x) (n : Nat) : LBox (w.drewN n) g x := h
theorem LBox.below {w w1 : World} {g : Nat} {x : Value} (h : LBox w g x) (b : Below w.heap.size w w1) : LBox w1 g x := (b.block g h.lt).trans h
theorem LBox.cell {w : World} {g : Nat} {x : Value} (h : LBox w g x) : w.cell? ⟨g, 0, none⟩ = some x := (cell_of_row w g 0 _ _ _ h).trans rfl

theorem mem3 (x : A3) (i : Int) : decide (i ∈ [x.a, x.b, x.c]) = inL x i := by
  rw [Bool.eq_iff_iff]
  unfold inL
  simp only [decide_eq_true_eq, List.mem_cons, List.not_mem_nil, or_false]
  omega
/-- The place of the first line of which P is true, or -1. -/
def posP {α : Type} (P : α → Bool) (l : List α) : Int := if l.any P = true then (((l.takeWhile fun x => !P x).length : Nat) : Int) else -1
theorem posP_at {α : Type} {P : α → Bool} : ∀ {l : List α} {k : Nat} {x : α}, l[k]? = some x → P x = true → (∀ (j : Nat) y, j < k → l[j]? = some y → P y = false) → (k : Int) = posP P l
  | [], k, x, h, _, _ => by simp at h
  | y :: r, 0, x, h, hp, _ => by
    obtain rfl : y = x := by simpa using h
    simp [posP, hp]
  | y :: r, k + 1, x, h, hp, hu => by
    have h0 := hu 0 y (by omega) rfl
    have ih := posP_at (l := r) (k := k) (by simpa using h) hp (fun j z hj hz => hu (j + 1) z (by omega) (by simpa using hz))
    unfold posP at ih ⊢
    have ha : r.any P = true := List.any_eq_true.2 ⟨x, List.mem_of_getElem? (by simpa using h), hp⟩
    rw [if_pos ha] at ih
    rw [if_pos (by simp [ha]), List.takeWhile_cons, if_pos (by simp [h0]), List.length_cons]
    omega
theorem posP_none {α : Type} {P : α → Bool} {l : List α} (hu : ∀ (j : Nat) y, l[j]? = some y → P y = false) : -1 = posP P l := by
  unfold posP
  rw [if_neg]
  intro h
  obtain ⟨x, hx, hp⟩ := List.any_eq_true.1 h
  obtain ⟨k, hk⟩ := List.mem_iff_getElem?.1 hx
  rw [hu k x hk] at hp; cases hp
theorem posP_nn {α : Type} {P : α → Bool} {l : List α} : decide (0 ≤ posP P l) = l.any P := by
  unfold posP
  cases h : l.any P <;> simp
theorem posP_bd {α : Type} (P : α → Bool) (l : List α) : -1 ≤ posP P l ∧ posP P l ≤ l.length := by
  unfold posP
  have := (List.takeWhile_sublist (fun x => !P x) (l := l)).length_le
  split <;> omega

end Go.Proofs.Yteccbcbijfcpmaa.parting

/- Is a place covered; is a line apart from others: the program's and the model's. -/
namespace Go.Proofs.Yteccbcbijfcpmaa.parting
open Go.RowKit
open cards maps
set_option linter.unusedVariables false

set_option maxRecDepth 100000 in
set_option maxHeartbeats 2000000 in
theorem index_funI (f : FuncId) (q : Value) (P : Int → Bool) (l : List Int) (p : Option Addr) (n c : Nat) (w : World) (hn : l.length = n) (hl : n ≤ 1000000000) (hr : Rd w p (ints l))
    (hcf : ∀ (args : Array Value) (w : World), (callFunc f args).run Try.prog w = .ok (.enter f args) w)
    (hC : ∀ (x : Int) (w' : World), Below w.heap.size w w' → Calls Try.prog f #[.int .i64 x, q] w' fun e w2 => e = .returned (.bool (P x)) ∧ Below w'.heap.size w' w2) :
    Calls Try.prog 126 #[.slice p n c, .func (.func f) #[] #[q]] w fun e w' => e = .returned (.int .i64 (posP P l)) ∧ Below w.heap.size w w' := by
  have HN := Lib.hid hn
  have HR := Lib.hid hr
  have HC := Lib.hid hC
  clear hn hr hC
  go_enter Try.func126, Try.ntmps126
  go_wp2_with fail
  go_loopw [5, 8] (fun _ i wr => ∃ k : Nat, k ≤ n ∧ i = .int .i64 k ∧ Hid (∀ (j : Nat) y, j < k → l[j]? = some y → P y = false) ∧ Hid (Below w.heap.size w wr)) (fun _ i _ => n - (intOf i).toNat)
  case atStart => exact ⟨0, Nat.zero_le _, rfl, Lib.hid (fun j y h => by omega), Lib.hid (Below.refl _ _)⟩
  case round =>
    obtain ⟨k, hk, rfl, HU, HB⟩ := hrel
    by_cases hlt : k < n
    · obtain ⟨b, o, x, rfl, hb, hx, c0⟩ := (HR.out.below HB.out).int (k := k) (by rw [HN.out]; exact hlt)
      have HX := Lib.hid hx
      clear hx
      have m0 : (0 : Int) ≤ (k : Int) := by omega
      have m1 : (k : Int) < (n : Int) := by omega
      go_wp2_with fail
      refine (HC.out x _ HB.out).mono ?_
      rintro e w1 ⟨rfl, b⟩
      have Sw1 := Lib.hid b.size
      have HB := Lib.hid (chain0 (w := w) (by repeat (first | with_reducible exact Below.refl _ _ | with_reducible exact HB.out | with_reducible apply Below.drew | with_reducible apply bdN | with_reducible refine Below.alloc ?_ (by first | exact Nat.le_refl _ | with_reducible exact HB.out.size | omega | (simp; done) | (simp; omega) | (have := HB.out.size; simp at *; omega)) _ | with_reducible refine Below.setCell ?_ (by first | exact Nat.le_refl _ | with_reducible exact HB.out.size | omega | (simp; done) | (simp; omega) | (have := HB.out.size; simp at *; omega)) _)) b)
      clear b
      clear c0
      cases hs : P x
      · have HU1 := Lib.hid (show ∀ (j : Nat) y, j < k + 1 → l[j]? = some y → P y = false from fun j y hj hy => by
          rcases Nat.lt_or_ge j k with h | h
          · exact HU.out j y h hy
          · obtain rfl : j = k := by omega
            have h1 := HX.out; rw [hy] at h1; injection h1 with h1; subst h1; exact hs)
        go_wp2_with fail
        go_roundw
        case rel => exact ⟨k + 1, by omega, by go_num, HU1, HB⟩
        case measure => simp [intOf]; omega
      · have HP := Lib.hid (show (k : Int) = posP P l from posP_at HX.out hs HU.out)
        go_wp2_with fail
        go_ret
        exact ⟨ret_int HP.out, HB.out⟩
    · obtain rfl : k = n := by omega
      have HP := Lib.hid (show -1 = posP P l from posP_none (fun j y hy => HU.out j y (by rw [← HN.out]; exact (List.getElem?_eq_some_iff.1 hy).1) hy))
      go_wp2_with fail
      go_ret
      exact ⟨ret_int HP.out, HB.out⟩

set_option maxRecDepth 100000 in
set_option maxHeartbeats 2000000 in
theorem contains_funI (f : FuncId) (q : Value) (P : Int → Bool) (l : List Int) (p : Option Addr) (n c : Nat) (w : World) (hn : l.length = n) (hl : n ≤ 1000000000) (hr : Rd w p (ints l))
    (hcf : ∀ (args : Array Value) (w : World), (callFunc f args).run Try.prog w = .ok (.enter f args) w)
    (hC : ∀ (x : Int) (w' : World), Below w.heap.size w w' → Calls Try.prog f #[.int .i64 x, q] w' fun e w2 => e = .returned (.bool (P x)) ∧ Below w'.heap.size w' w2) :
    Calls Try.prog 101 #[.slice p n c, .func (.func f) #[] #[q]] w fun e w' => e = .returned (.bool (l.any P)) ∧ Below w.heap.size w w' := by
  have HI := index_funI f q P l p n c w hn hl hr hcf hC
  have HP := Lib.hid (posP_nn (P := P) (l := l))
  obtain ⟨v, hv⟩ : ∃ v, posP P l = v := ⟨_, rfl⟩
  obtain ⟨bb, hb⟩ : ∃ bb, l.any P = bb := ⟨_, rfl⟩
  rw [hv] at HI
  rw [hv, hb] at HP
  rw [hb]
  have HI := Lib.hid HI
  clear hn hr hcf hC hv hb
  go_enter Try.func101, Try.ntmps101
  go_wp2_with fail
  refine ((HI.out)).mono ?_
  rintro e w1 ⟨rfl, b⟩
  have Sw1 := Lib.hid b.size
  have HB := Lib.hid (chain0 (w := w) (by repeat (first | with_reducible exact Below.refl _ _ | with_reducible exact HB.out | with_reducible apply Below.drew | with_reducible apply bdN | with_reducible refine Below.alloc ?_ (by first | exact Nat.le_refl _ | with_reducible exact HB.out.size | omega | (simp; done) | (simp; omega) | (have := HB.out.size; simp at *; omega)) _ | with_reducible refine Below.setCell ?_ (by first | exact Nat.le_refl _ | with_reducible exact HB.out.size | omega | (simp; done) | (simp; omega) | (have := HB.out.size; simp at *; omega)) _)) b)
  clear b
  go_wp2_with fail
  go_ret
  exact ⟨ret_bool HP.out, HB.out⟩

theorem free_any (l : List A3) (x : A3) : (!cov l x.a && (!cov l x.b && !cov l x.c)) = free l x := by
  rw [free_cov]
  cases cov l x.a <;> cases cov l x.b <;> cases cov l x.c <;> rfl
end Go.Proofs.Yteccbcbijfcpmaa.parting

/- Is a Game valid? The program and the model alike. -/
namespace Go.Proofs.Yteccbcbijfcpmaa.game
open Go.RowKit
open cards deal
set_option linter.unusedVariables false

set_option maxHeartbeats 400000 in
theorem odd_fun (x : Int) (w : World) :
    Calls Try.prog 100 #[.int .i64 x] w fun e w' => e = .returned (.bool (!tly1 x)) ∧ Below w.heap.size w w' := by
  go_enter Try.func100, Try.ntmps100
  go_wp2
  all_goals go_ret
  all_goals exact ⟨ret_bool (by unfold tly1; rw [Bool.eq_iff_iff]; simp <;> omega), by repeat (first | with_reducible exact Below.refl _ _ | with_reducible exact HB.out | with_reducible apply Below.drew | with_reducible apply bdN | with_reducible refine Below.alloc ?_ (by first | exact Nat.le_refl _ | with_reducible exact HB.out.size | omega | (simp; done) | (simp; omega) | (have := HB.out.size; simp at *; omega)) _ | with_reducible refine Below.setCell ?_ (by first | exact Nat.le_refl _ | with_reducible exact HB.out.size | omega | (simp; done) | (simp; omega) | (have := HB.out.size; simp at *; omega)) _)⟩

set_option maxRecDepth 100000 in
set_option maxHeartbeats 2000000 in
theorem index_odd (l : List Int) (p : Option Addr) (n c : Nat) (w : World) (hn : l.length = n) (hl : n ≤ 1000000000) (hr : Rd w p (ints l)) :
    Calls Try.prog 126 #[.slice p n c, .func (.func 100) #[] #[]] w fun e w' => e = .returned (.int .i64 (parting.posP (fun x => !tly1 x) l)) ∧ Below w.heap.size w w' := by
  have HN := Lib.hid hn
  have HR := Lib.hid hr
  clear hn hr
  go_enter Try.func126, Try.ntmps126
  go_wp2_with fail
  go_loopw [5, 8] (fun _ i wr => ∃ k : Nat, k ≤ n ∧ i = .int .i64 k ∧ Hid (∀ (j : Nat) y, j < k → l[j]? = some y → (!tly1 y) = false) ∧ Hid (Below w.heap.size w wr)) (fun _ i _ => n - (intOf i).toNat)
  case atStart => exact ⟨0, Nat.zero_le _, rfl, Lib.hid (fun j y h => by omega), Lib.hid (Below.refl _ _)⟩
  case round =>
    obtain ⟨k, hk, rfl, HU, HB⟩ := hrel
    by_cases hlt : k < n
    · obtain ⟨b, o, x, rfl, hb, hx, c0⟩ := (HR.out.below HB.out).int (k := k) (by rw [HN.out]; exact hlt)
      have HX := Lib.hid hx
      clear hx
      have m0 : (0 : Int) ≤ (k : Int) := by omega
      have m1 : (k : Int) < (n : Int) := by omega
      go_wp2_with fail
      refine (odd_fun x _).mono ?_
      rintro e w1 ⟨rfl, b⟩
      have Sw1 := Lib.hid b.size
      have HB := Lib.hid (chain0 (w := w) (by repeat (first | with_reducible exact Below.refl _ _ | with_reducible exact HB.out | with_reducible apply Below.drew | with_reducible apply bdN | with_reducible refine Below.alloc ?_ (by first | exact Nat.le_refl _ | with_reducible exact HB.out.size | omega | (simp; done) | (simp; omega) | (have := HB.out.size; simp at *; omega)) _ | with_reducible refine Below.setCell ?_ (by first | exact Nat.le_refl _ | with_reducible exact HB.out.size | omega | (simp; done) | (simp; omega) | (have := HB.out.size; simp at *; omega)) _)) b)
      clear b
      clear c0
      cases hs : tly1 x
      · have HP := Lib.hid (show (k : Int) = parting.posP (fun x => !tly1 x) l from parting.posP_at HX.out (by simp [hs]) HU.out)
        go_wp2_with fail
        go_ret
        exact ⟨ret_int HP.out, HB.out⟩
      · have HU1 := Lib.hid (show ∀ (j : Nat) y, j < k + 1 → l[j]? = some y → (!tly1 y) = false from fun j y hj hy => by
          rcases Nat.lt_or_ge j k with h | h
          · exact HU.out j y h hy
          · obtain rfl : j = k := by omega
            have h1 := HX.out; rw [hy] at h1; injection h1 with h1; subst h1; simp [hs])
        go_wp2_with fail
        go_roundw
        case rel => exact ⟨k + 1, by omega, by go_num, HU1, HB⟩
        case measure => simp [intOf]; omega
    · obtain rfl : k = n := by omega
      have HP := Lib.hid (show -1 = parting.posP (fun x => !tly1 x) l from parting.posP_none (fun j y hy => HU.out j y (by have := (List.getElem?_eq_some_iff.1 hy).1; rw [HN.out] at this; exact this) hy))
      go_wp2_with fail
      go_ret
      exact ⟨ret_int HP.out, HB.out⟩
theorem any_tly (l : List Int) : (l.any fun x => !tly1 x) = !tly l := by
  unfold tly
  induction l with
  | nil => rfl
  | cons x r ih => simp [ih]

set_option maxRecDepth 100000 in
set_option maxHeartbeats 2000000 in
theorem contains_odd (l : List Int) (p : Option Addr) (n c : Nat) (w : World) (hn : l.length = n) (hl : n ≤ 1000000000) (hr : Rd w p (ints l)) :
    Calls Try.prog 101 #[.slice p n c, .func (.func 100) #[] #[]] w fun e w' => e = .returned (.bool (!tly l)) ∧ Below w.heap.size w w' := by
  have HI := index_odd l p n c w hn hl hr
  have HP := Lib.hid (show decide (0 ≤ parting.posP (fun x => !tly1 x) l) = !tly l by rw [parting.posP_nn, any_tly])
  obtain ⟨v, hv⟩ : ∃ v, parting.posP (fun x => !tly1 x) l = v := ⟨_, rfl⟩
  obtain ⟨bb, hb⟩ : ∃ bb, (!tly l) = bb := ⟨_, rfl⟩
  rw [hv] at HI
  rw [hv, hb] at HP
  rw [hb]
  have HI := Lib.hid HI
  clear hn hr hv hb
  go_enter Try.func101, Try.ntmps101
  go_wp2_with fail
  refine ((HI.out)).mono ?_
  rintro e w1 ⟨rfl, b⟩
  have Sw1 := Lib.hid b.size
  have HB := Lib.hid (chain0 (w := w) (by repeat (first | with_reducible exact Below.refl _ _ | with_reducible exact HB.out | with_reducible apply Below.drew | with_reducible apply bdN | with_reducible refine Below.alloc ?_ (by first | exact Nat.le_refl _ | with_reducible exact HB.out.size | omega | (simp; done) | (simp; omega) | (have := HB.out.size; simp at *; omega)) _ | with_reducible refine Below.setCell ?_ (by first | exact Nat.le_refl _ | with_reducible exact HB.out.size | omega | (simp; done) | (simp; omega) | (have := HB.out.size; simp at *; omega)) _)) b)
  clear b
  go_wp2_with fail
  go_ret
  exact ⟨ret_bool HP.out, HB.out⟩

set_option maxRecDepth 100000 in
set_option maxHeartbeats 2000000 in
theorem are_tallies (l : List Int) (p : Option Addr) (n c k : Nat) (w : World) (hn : l.length = n) (hl : n ≤ 1000000000) (hr : Rd w p (ints l)) :
    Calls Try.prog 66 #[.slice p n c, .int .i64 k] w fun e w' => e = .returned (.bool (decide (n = k) && tly l)) ∧ Below w.heap.size w w' := by
  have HN := Lib.hid hn
  have HR := Lib.hid hr
  clear hn hr
  by_cases hk : n = k
  · subst hk
    have HT : Hid ((decide (n = n) && tly l) = tly l) := Lib.hid (by simp)
    rw [HT.out]
    obtain ⟨q, hq⟩ : ∃ q, tly l = q := ⟨_, rfl⟩
    have HC := Lib.hid (fun w h => contains_odd l p n c w HN.out hl h)
    rw [hq] at HC ⊢
    clear hq
    go_enter Try.func66, Try.ntmps66
    go_wp2_with fail
    refine ((HC.out _ (by repeat (first | with_reducible exact HR.out | with_reducible apply Rd.drewN | with_reducible apply Rd.drew | with_reducible apply Rd.alloc)))).mono ?_
    rintro e w1 ⟨rfl, b⟩
    have Sw1 := Lib.hid b.size
    have HB := Lib.hid (chain0 (w := w) (by repeat (first | with_reducible exact Below.refl _ _ | with_reducible exact HB.out | with_reducible apply Below.drew | with_reducible apply bdN | with_reducible refine Below.alloc ?_ (by first | exact Nat.le_refl _ | with_reducible exact HB.out.size | omega | (simp; done) | (simp; omega) | (have := HB.out.size; simp at *; omega)) _ | with_reducible refine Below.setCell ?_ (by first | exact Nat.le_refl _ | with_reducible exact HB.out.size | omega | (simp; done) | (simp; omega) | (have := HB.out.size; simp at *; omega)) _)) b)
    have HR := Lib.hid (Rd.below (by repeat (first | with_reducible exact HR.out | with_reducible apply Rd.drewN | with_reducible apply Rd.drew | with_reducible apply Rd.alloc)) b)
    clear b
    go_wp2_with fail
    go_ret
    exact ⟨ret_bool (by simp), HB.out⟩
  · have HT : Hid ((decide (n = k) && tly l) = false) := Lib.hid (by simp [hk])
    rw [HT.out]
    have hk2 : ((n : Int) == (k : Int)) = false := by simp; omega
    clear hk
    go_enter Try.func66, Try.ntmps66
    go_wp2_with fail
    go_ret
    exact ⟨rfl, by repeat (first | with_reducible exact Below.refl _ _ | with_reducible exact HB.out | with_reducible apply Below.drew | with_reducible apply bdN | with_reducible refine Below.alloc ?_ (by first | exact Nat.le_refl _ | with_reducible exact HB.out.size | omega | (simp; done) | (simp; omega) | (have := HB.out.size; simp at *; omega)) _ | with_reducible refine Below.setCell ?_ (by first | exact Nat.le_refl _ | with_reducible exact HB.out.size | omega | (simp; done) | (simp; omega) | (have := HB.out.size; simp at *; omega)) _)⟩

theorem plI_N (n : Nat) : plI (n : Int) = plN n := by unfold plI plN; rw [Bool.eq_iff_iff, decide_eq_true_eq, decide_eq_true_eq]; omega
set_option maxRecDepth 100000 in
set_option maxHeartbeats 4000000 in
theorem is_game (g : Gm) (p ps pw : Option Addr) (n c ns cs nw cw : Nat) (w : World) (hf : FitG n c ns cs nw cw p ps pw g) (hr : RdG w p ps pw g.l g.sc g.wr) :
    Calls Try.prog 23 #[gval g.s g.nx (.slice p n c) (.slice ps ns cs) (.slice pw nw cw)] w fun e w' => e = .returned (.bool g.ok) ∧ Below w.heap.size w w' := by
  have HF := Lib.hid hf
  have HR := Lib.hid hr
  have HP := Lib.hid (fun w => can_play (ns : Int) w)
  have HS := Lib.hid (fun w h => are_tallies g.sc ps ns cs ns w HF.out.hs (by have := HF.out.s1; omega) h)
  have HW := Lib.hid (fun w h => are_tallies g.wr pw nw cw ns w HF.out.hw (by have := HF.out.w1; omega) h)
  have HD := Lib.hid (fun w h => impl_isdeal g.s g.nx g.l p n c w HF.out.hn (by have := HF.out.n1; omega) HF.out.hc h HF.out.wf)
  have HT : Hid (g.ok = (plN ns && ((decide (ns = ns) && tly g.sc) && ((decide (nw = ns) && tly g.wr) && (Dl.mk g.s g.nx g.l).ok)))) := Lib.hid (by
    unfold Gm.ok
    rw [HF.out.hs, HF.out.hw]
    simp [Gm.d, Bool.and_assoc])
  rw [plI_N] at HP
  obtain ⟨b1, hb1⟩ : ∃ b1, plN ns = b1 := ⟨_, rfl⟩
  obtain ⟨b2, hb2⟩ : ∃ b2, (decide (ns = ns) && tly g.sc) = b2 := ⟨_, rfl⟩
  obtain ⟨b3, hb3⟩ : ∃ b3, (decide (nw = ns) && tly g.wr) = b3 := ⟨_, rfl⟩
  obtain ⟨b4, hb4⟩ : ∃ b4, (Dl.mk g.s g.nx g.l).ok = b4 := ⟨_, rfl⟩
  rw [hb1] at HP
  rw [hb2] at HS
  rw [hb3] at HW
  rw [hb4] at HD
  rw [hb1, hb2, hb3, hb4] at HT
  obtain ⟨s, nx, l, sc, wr⟩ := g
  simp only at HR HS HW HD ⊢
  clear hf hr hb1 hb2 hb3 hb4
  cases b1
  · go_enter Try.func23, Try.ntmps23
    go_wp2_with fail
    refine ((HP.out _)).mono ?_
    rintro e w1 ⟨rfl, b⟩
    have Sw1 := Lib.hid b.size
    have HB := Lib.hid (chain0 (w := w) (by repeat (first | with_reducible exact Below.refl _ _ | with_reducible exact HB.out | with_reducible apply Below.drew | with_reducible apply bdN | with_reducible refine Below.alloc ?_ (by first | exact Nat.le_refl _ | with_reducible exact HB.out.size | omega | (simp; done) | (simp; omega) | (have := HB.out.size; simp at *; omega)) _ | with_reducible refine Below.setCell ?_ (by first | exact Nat.le_refl _ | with_reducible exact HB.out.size | omega | (simp; done) | (simp; omega) | (have := HB.out.size; simp at *; omega)) _)) b)
    have K1 : Hid (GBox _ (w.heap.size) (⟨27, s, nx, .slice p n c, .slice ps ns cs, .slice pw nw cw⟩)) := Lib.hid (GBox.below (by repeat (first | with_reducible exact K1.out | with_reducible apply GBox.drewN | with_reducible apply GBox.drew | (with_reducible refine GBox.newAt ?_ ?_ <;> first | (simp; done) | rfl) | with_reducible apply GBox.alloc)) b)
    try clear k1a k1b k1c k1d k1e k1z
    have k1z := K1.out.lt
    obtain ⟨k1a, k1b, k1c, k1d, k1e⟩ := K1.out.cell
    clear b
    go_wp2_with fail
    go_ret
    exact ⟨ret_bool HT.out.symm, by repeat (first | with_reducible exact Below.refl _ _ | with_reducible exact HB.out | with_reducible apply Below.drew | with_reducible apply bdN | with_reducible refine Below.alloc ?_ (by first | exact Nat.le_refl _ | with_reducible exact HB.out.size | omega | (simp; done) | (simp; omega) | (have := HB.out.size; simp at *; omega)) _ | with_reducible refine Below.setCell ?_ (by first | exact Nat.le_refl _ | with_reducible exact HB.out.size | omega | (simp; done) | (simp; omega) | (have := HB.out.size; simp at *; omega)) _)⟩
  · cases b2
    · go_enter Try.func23, Try.ntmps23
      go_wp2_with fail
      refine ((HP.out _)).mono ?_
      rintro e w1 ⟨rfl, b⟩
      have Sw1 := Lib.hid b.size
      have HB := Lib.hid (chain0 (w := w) (by repeat (first | with_reducible exact Below.refl _ _ | with_reducible exact HB.out | with_reducible apply Below.drew | with_reducible apply bdN | with_reducible refine Below.alloc ?_ (by first | exact Nat.le_refl _ | with_reducible exact HB.out.size | omega | (simp; done) | (simp; omega) | (have := HB.out.size; simp at *; omega)) _ | with_reducible refine Below.setCell ?_ (by first | exact Nat.le_refl _ | with_reducible exact HB.out.size | omega | (simp; done) | (simp; omega) | (have := HB.out.size; simp at *; omega)) _)) b)
      have HR := Lib.hid (RdG.below (by repeat (first | with_reducible exact HR.out | with_reducible apply RdG.drewN | with_reducible apply RdG.drew | with_reducible apply RdG.alloc)) b)
      have K1 : Hid (GBox _ (w.heap.size) (⟨27, s, nx, .slice p n c, .slice ps ns cs, .slice pw nw cw⟩)) := Lib.hid (GBox.below (by repeat (first | with_reducible exact K1.out | with_reducible apply GBox.drewN | with_reducible apply GBox.drew | (with_reducible refine GBox.newAt ?_ ?_ <;> first | (simp; done) | rfl) | with_reducible apply GBox.alloc)) b)
      try clear k1a k1b k1c k1d k1e k1z
      have k1z := K1.out.lt
      obtain ⟨k1a, k1b, k1c, k1d, k1e⟩ := K1.out.cell
      clear b
      go_wp2_with fail
      refine ((HS.out _ HR.out.b)).mono ?_
      rintro e w2 ⟨rfl, b⟩
      have Sw2 := Lib.hid b.size
      have HB := Lib.hid (chain0 (w := w) (by repeat (first | with_reducible exact Below.refl _ _ | with_reducible exact HB.out | with_reducible apply Below.drew | with_reducible apply bdN | with_reducible refine Below.alloc ?_ (by first | exact Nat.le_refl _ | with_reducible exact HB.out.size | omega | (simp; done) | (simp; omega) | (have := HB.out.size; simp at *; omega)) _ | with_reducible refine Below.setCell ?_ (by first | exact Nat.le_refl _ | with_reducible exact HB.out.size | omega | (simp; done) | (simp; omega) | (have := HB.out.size; simp at *; omega)) _)) b)
      have HR := Lib.hid (RdG.below (by repeat (first | with_reducible exact HR.out | with_reducible apply RdG.drewN | with_reducible apply RdG.drew | with_reducible apply RdG.alloc)) b)
      have K1 : Hid (GBox _ (w.heap.size) (⟨27, s, nx, .slice p n c, .slice ps ns cs, .slice pw nw cw⟩)) := Lib.hid (GBox.below (by repeat (first | with_reducible exact K1.out | with_reducible apply GBox.drewN | with_reducible apply GBox.drew | (with_reducible refine GBox.newAt ?_ ?_ <;> first | (simp; done) | rfl) | with_reducible apply GBox.alloc)) b)
      try clear k1a k1b k1c k1d k1e k1z
      have k1z := K1.out.lt
      obtain ⟨k1a, k1b, k1c, k1d, k1e⟩ := K1.out.cell
      clear b
      go_wp2_with fail
      go_ret
      exact ⟨ret_bool HT.out.symm, by repeat (first | with_reducible exact Below.refl _ _ | with_reducible exact HB.out | with_reducible apply Below.drew | with_reducible apply bdN | with_reducible refine Below.alloc ?_ (by first | exact Nat.le_refl _ | with_reducible exact HB.out.size | omega | (simp; done) | (simp; omega) | (have := HB.out.size; simp at *; omega)) _ | with_reducible refine Below.setCell ?_ (by first | exact Nat.le_refl _ | with_reducible exact HB.out.size | omega | (simp; done) | (simp; omega) | (have := HB.out.size; simp at *; omega)) _)⟩
    · cases b3
      · go_enter Try.func23, Try.ntmps23
        go_wp2_with fail
        refine ((HP.out _)).mono ?_
        rintro e w1 ⟨rfl, b⟩
        have Sw1 := Lib.hid b.size
        have HB := Lib.hid (chain0 (w := w) (by repeat (first | with_reducible exact Below.refl _ _ | with_reducible exact HB.out | with_reducible apply Below.drew | with_reducible apply bdN | with_reducible refine Below.alloc ?_ (by first | exact Nat.le_refl _ | with_reducible exact HB.out.size | omega | (simp; done) | (simp; omega) | (have := HB.out.size; simp at *; omega)) _ | with_reducible refine Below.setCell ?_ (by first | exact Nat.le_refl _ | with_reducible exact HB.out.size | omega | (simp; done) | (simp; omega) | (have := HB.out.size; simp at *; omega)) _)) b)
        have HR := Lib.hid (RdG.below (by repeat (first | with_reducible exact HR.out | with_reducible apply RdG.drewN | with_reducible apply RdG.drew | with_reducible apply RdG.alloc)) b)
        have K1 : Hid (GBox _ (w.heap.size) (⟨27, s, nx, .slice p n c, .slice ps ns cs, .slice pw nw cw⟩)) := Lib.hid (GBox.below (by repeat (first | with_reducible exact K1.out | with_reducible apply GBox.drewN | with_reducible apply GBox.drew | (with_reducible refine GBox.newAt ?_ ?_ <;> first | (simp; done) | rfl) | with_reducible apply GBox.alloc)) b)
        try clear k1a k1b k1c k1d k1e k1z
        have k1z := K1.out.lt
        obtain ⟨k1a, k1b, k1c, k1d, k1e⟩ := K1.out.cell
        clear b
        go_wp2_with fail
        refine ((HS.out _ HR.out.b)).mono ?_
        rintro e w2 ⟨rfl, b⟩
        have Sw2 := Lib.hid b.size
        have HB := Lib.hid (chain0 (w := w) (by repeat (first | with_reducible exact Below.refl _ _ | with_reducible exact HB.out | with_reducible apply Below.drew | with_reducible apply bdN | with_reducible refine Below.alloc ?_ (by first | exact Nat.le_refl _ | with_reducible exact HB.out.size | omega | (simp; done) | (simp; omega) | (have := HB.out.size; simp at *; omega)) _ | with_reducible refine Below.setCell ?_ (by first | exact Nat.le_refl _ | with_reducible exact HB.out.size | omega | (simp; done) | (simp; omega) | (have := HB.out.size; simp at *; omega)) _)) b)
        have HR := Lib.hid (RdG.below (by repeat (first | with_reducible exact HR.out | with_reducible apply RdG.drewN | with_reducible apply RdG.drew | with_reducible apply RdG.alloc)) b)
        have K1 : Hid (GBox _ (w.heap.size) (⟨27, s, nx, .slice p n c, .slice ps ns cs, .slice pw nw cw⟩)) := Lib.hid (GBox.below (by repeat (first | with_reducible exact K1.out | with_reducible apply GBox.drewN | with_reducible apply GBox.drew | (with_reducible refine GBox.newAt ?_ ?_ <;> first | (simp; done) | rfl) | with_reducible apply GBox.alloc)) b)
        try clear k1a k1b k1c k1d k1e k1z
        have k1z := K1.out.lt
        obtain ⟨k1a, k1b, k1c, k1d, k1e⟩ := K1.out.cell
        clear b
        go_wp2_with fail
        refine ((HW.out _ HR.out.c)).mono ?_
        rintro e w3 ⟨rfl, b⟩
        have Sw3 := Lib.hid b.size
        have HB := Lib.hid (chain0 (w := w) (by repeat (first | with_reducible exact Below.refl _ _ | with_reducible exact HB.out | with_reducible apply Below.drew | with_reducible apply bdN | with_reducible refine Below.alloc ?_ (by first | exact Nat.le_refl _ | with_reducible exact HB.out.size | omega | (simp; done) | (simp; omega) | (have := HB.out.size; simp at *; omega)) _ | with_reducible refine Below.setCell ?_ (by first | exact Nat.le_refl _ | with_reducible exact HB.out.size | omega | (simp; done) | (simp; omega) | (have := HB.out.size; simp at *; omega)) _)) b)
        have HR := Lib.hid (RdG.below (by repeat (first | with_reducible exact HR.out | with_reducible apply RdG.drewN | with_reducible apply RdG.drew | with_reducible apply RdG.alloc)) b)
        have K1 : Hid (GBox _ (w.heap.size) (⟨27, s, nx, .slice p n c, .slice ps ns cs, .slice pw nw cw⟩)) := Lib.hid (GBox.below (by repeat (first | with_reducible exact K1.out | with_reducible apply GBox.drewN | with_reducible apply GBox.drew | (with_reducible refine GBox.newAt ?_ ?_ <;> first | (simp; done) | rfl) | with_reducible apply GBox.alloc)) b)
        try clear k1a k1b k1c k1d k1e k1z
        have k1z := K1.out.lt
        obtain ⟨k1a, k1b, k1c, k1d, k1e⟩ := K1.out.cell
        clear b
        go_wp2_with fail
        go_ret
        exact ⟨ret_bool HT.out.symm, by repeat (first | with_reducible exact Below.refl _ _ | with_reducible exact HB.out | with_reducible apply Below.drew | with_reducible apply bdN | with_reducible refine Below.alloc ?_ (by first | exact Nat.le_refl _ | with_reducible exact HB.out.size | omega | (simp; done) | (simp; omega) | (have := HB.out.size; simp at *; omega)) _ | with_reducible refine Below.setCell ?_ (by first | exact Nat.le_refl _ | with_reducible exact HB.out.size | omega | (simp; done) | (simp; omega) | (have := HB.out.size; simp at *; omega)) _)⟩
      · go_enter Try.func23, Try.ntmps23
        go_wp2_with fail
        refine ((HP.out _)).mono ?_
        rintro e w1 ⟨rfl, b⟩
        have Sw1 := Lib.hid b.size
        have HB := Lib.hid (chain0 (w := w) (by repeat (first | with_reducible exact Below.refl _ _ | with_reducible exact HB.out | with_reducible apply Below.drew | with_reducible apply bdN | with_reducible refine Below.alloc ?_ (by first | exact Nat.le_refl _ | with_reducible exact HB.out.size | omega | (simp; done) | (simp; omega) | (have := HB.out.size; simp at *; omega)) _ | with_reducible refine Below.setCell ?_ (by first | exact Nat.le_refl _ | with_reducible exact HB.out.size | omega | (simp; done) | (simp; omega) | (have := HB.out.size; simp at *; omega)) _)) b)
        have HR := Lib.hid (RdG.below (by repeat (first | with_reducible exact HR.out | with_reducible apply RdG.drewN | with_reducible apply RdG.drew | with_reducible apply RdG.alloc)) b)
        have K1 : Hid (GBox _ (w.heap.size) (⟨27, s, nx, .slice p n c, .slice ps ns cs, .slice pw nw cw⟩)) := Lib.hid (GBox.below (by repeat (first | with_reducible exact K1.out | with_reducible apply GBox.drewN | with_reducible apply GBox.drew | (with_reducible refine GBox.newAt ?_ ?_ <;> first | (simp; done) | rfl) | with_reducible apply GBox.alloc)) b)
        try clear k1a k1b k1c k1d k1e k1z
        have k1z := K1.out.lt
        obtain ⟨k1a, k1b, k1c, k1d, k1e⟩ := K1.out.cell
        clear b
        go_wp2_with fail
        refine ((HS.out _ HR.out.b)).mono ?_
        rintro e w2 ⟨rfl, b⟩
        have Sw2 := Lib.hid b.size
        have HB := Lib.hid (chain0 (w := w) (by repeat (first | with_reducible exact Below.refl _ _ | with_reducible exact HB.out | with_reducible apply Below.drew | with_reducible apply bdN | with_reducible refine Below.alloc ?_ (by first | exact Nat.le_refl _ | with_reducible exact HB.out.size | omega | (simp; done) | (simp; omega) | (have := HB.out.size; simp at *; omega)) _ | with_reducible refine Below.setCell ?_ (by first | exact Nat.le_refl _ | with_reducible exact HB.out.size | omega | (simp; done) | (simp; omega) | (have := HB.out.size; simp at *; omega)) _)) b)
        have HR := Lib.hid (RdG.below (by repeat (first | with_reducible exact HR.out | with_reducible apply RdG.drewN | with_reducible apply RdG.drew | with_reducible apply RdG.alloc)) b)
        have K1 : Hid (GBox _ (w.heap.size) (⟨27, s, nx, .slice p n c, .slice ps ns cs, .slice pw nw cw⟩)) := Lib.hid (GBox.below (by repeat (first | with_reducible exact K1.out | with_reducible apply GBox.drewN | with_reducible apply GBox.drew | (with_reducible refine GBox.newAt ?_ ?_ <;> first | (simp; done) | rfl) | with_reducible apply GBox.alloc)) b)
        try clear k1a k1b k1c k1d k1e k1z
        have k1z := K1.out.lt
        obtain ⟨k1a, k1b, k1c, k1d, k1e⟩ := K1.out.cell
        clear b
        go_wp2_with fail
        refine ((HW.out _ HR.out.c)).mono ?_
        rintro e w3 ⟨rfl, b⟩
        have Sw3 := Lib.hid b.size
        have HB := Lib.hid (chain0 (w := w) (by repeat (first | with_reducible exact Below.refl _ _ | with_reducible exact HB.out | with_reducible apply Below.drew | with_reducible apply bdN | with_reducible refine Below.alloc ?_ (by first | exact Nat.le_refl _ | with_reducible exact HB.out.size | omega | (simp; done) | (simp; omega) | (have := HB.out.size; simp at *; omega)) _ | with_reducible refine Below.setCell ?_ (by first | exact Nat.le_refl _ | with_reducible exact HB.out.size | omega | (simp; done) | (simp; omega) | (have := HB.out.size; simp at *; omega)) _)) b)
        have HR := Lib.hid (RdG.below (by repeat (first | with_reducible exact HR.out | with_reducible apply RdG.drewN | with_reducible apply RdG.drew | with_reducible apply RdG.alloc)) b)
        have K1 : Hid (GBox _ (w.heap.size) (⟨27, s, nx, .slice p n c, .slice ps ns cs, .slice pw nw cw⟩)) := Lib.hid (GBox.below (by repeat (first | with_reducible exact K1.out | with_reducible apply GBox.drewN | with_reducible apply GBox.drew | (with_reducible refine GBox.newAt ?_ ?_ <;> first | (simp; done) | rfl) | with_reducible apply GBox.alloc)) b)
        try clear k1a k1b k1c k1d k1e k1z
        have k1z := K1.out.lt
        obtain ⟨k1a, k1b, k1c, k1d, k1e⟩ := K1.out.cell
        clear b
        go_wp2_with fail
        refine ((HD.out _ HR.out.a)).mono ?_
        rintro e w4 ⟨rfl, b⟩
        have Sw4 := Lib.hid b.size
        have HB := Lib.hid (chain0 (w := w) (by repeat (first | with_reducible exact Below.refl _ _ | with_reducible exact HB.out | with_reducible apply Below.drew | with_reducible apply bdN | with_reducible refine Below.alloc ?_ (by first | exact Nat.le_refl _ | with_reducible exact HB.out.size | omega | (simp; done) | (simp; omega) | (have := HB.out.size; simp at *; omega)) _ | with_reducible refine Below.setCell ?_ (by first | exact Nat.le_refl _ | with_reducible exact HB.out.size | omega | (simp; done) | (simp; omega) | (have := HB.out.size; simp at *; omega)) _)) b)
        have HR := Lib.hid (RdG.below (by repeat (first | with_reducible exact HR.out | with_reducible apply RdG.drewN | with_reducible apply RdG.drew | with_reducible apply RdG.alloc)) b)
        have K1 : Hid (GBox _ (w.heap.size) (⟨27, s, nx, .slice p n c, .slice ps ns cs, .slice pw nw cw⟩)) := Lib.hid (GBox.below (by repeat (first | with_reducible exact K1.out | with_reducible apply GBox.drewN | with_reducible apply GBox.drew | (with_reducible refine GBox.newAt ?_ ?_ <;> first | (simp; done) | rfl) | with_reducible apply GBox.alloc)) b)
        try clear k1a k1b k1c k1d k1e k1z
        have k1z := K1.out.lt
        obtain ⟨k1a, k1b, k1c, k1d, k1e⟩ := K1.out.cell
        clear b
        go_wp2_with fail
        go_ret
        exact ⟨ret_bool (by rw [HT.out]; simp), by repeat (first | with_reducible exact Below.refl _ _ | with_reducible exact HB.out | with_reducible apply Below.drew | with_reducible apply bdN | with_reducible refine Below.alloc ?_ (by first | exact Nat.le_refl _ | with_reducible exact HB.out.size | omega | (simp; done) | (simp; omega) | (have := HB.out.size; simp at *; omega)) _ | with_reducible refine Below.setCell ?_ (by first | exact Nat.le_refl _ | with_reducible exact HB.out.size | omega | (simp; done) | (simp; omega) | (have := HB.out.size; simp at *; omega)) _)⟩
end Go.Proofs.Yteccbcbijfcpmaa.game

/- Is a Game valid? The model. -/
namespace Go.Proofs.Yteccbcbijfcpmaa.game
open Go.RowKit
open cards deal
set_option linter.unusedVariables false

/-- What the model has seen of the tallies so far. -/
def okT (g : Gm) (k : Nat) : Prop := ∀ j, j < k → (∀ x, g.sc[j]? = some x → 0 ≤ x ∧ x ≤ 60) ∧ (∀ x, g.wr[j]? = some x → 0 ≤ x ∧ x ≤ 60)
theorem okT_end {g : Gm} (hd : g.d.okP) (h1 : 1 ≤ g.sc.length) (h4 : g.sc.length ≤ 4) (he : g.wr.length = g.sc.length) (h : okT g g.sc.length) : g.ok = true :=
  Gm.ok_iff.2 ⟨h1, h4, tly_all (fun k x hx => (h k (List.getElem?_eq_some_iff.1 hx).1).1 x hx), he, tly_all (fun k x hx => (h k (by rw [← he]; exact (List.getElem?_eq_some_iff.1 hx).1)).2 x hx), hd⟩

set_option maxRecDepth 100000 in
set_option maxHeartbeats 4000000 in
theorem l8_game (g : Gm) (p ps pw : Option Addr) (n c ns cs nw cw : Nat) (w : World) (hf : FitG n c ns cs nw cw p ps pw g) (hr : RdG w p ps pw g.l g.sc g.wr) :
    Calls Try.prog 63 #[gval g.s g.nx (.slice p n c) (.slice ps ns cs) (.slice pw nw cw)] w fun e w' => e = .returned (.bool g.ok) ∧ Below w.heap.size w w' := by
  have HF := Lib.hid hf
  have HR := Lib.hid hr
  have HR0 := Lib.hid hr
  have HD := Lib.hid (fun w h => l4_deal g.s g.nx g.l p n c w HF.out.hn (by have := HF.out.n1; omega) HF.out.hc h HF.out.wf)
  have HP := Lib.hid (fun w => l1_in (ns : Int) 1 4 w)
  obtain ⟨b1, hb1⟩ : ∃ b1, (Dl.mk g.s g.nx g.l).ok = b1 := ⟨_, rfl⟩
  have HB1 := Lib.hid hb1
  rw [hb1] at HD
  obtain ⟨b2, hb2⟩ : ∃ b2, decide (1 ≤ (ns : Int) ∧ (ns : Int) ≤ 4) = b2 := ⟨_, rfl⟩
  have HB2 := Lib.hid hb2
  rw [hb2] at HP
  have HS := Lib.hid HF.out.hs
  have HW := Lib.hid HF.out.hw
  clear hf hr hb1 hb2
  cases b1
  · have HT := Lib.hid (Gm.no (g := g) (fun h => by have := Dl.ok_iff.2 h.d; have h2 := HB1.out; unfold Gm.d at this; rw [this] at h2; cases h2))
    obtain ⟨s, nx, l, sc, wt⟩ := g
    simp only at HR HD ⊢
    go_enter Try.func63, Try.ntmps63
    go_wp2_with fail
    refine ((HD.out _ (RdG.a (by repeat (first | with_reducible exact HR.out | with_reducible apply RdG.drewN | with_reducible apply RdG.drew | with_reducible apply RdG.alloc))))).mono ?_
    rintro e w1 ⟨rfl, b⟩
    have Sw1 := Lib.hid b.size
    have HB := Lib.hid (chain0 (w := w) (by repeat (first | with_reducible exact Below.refl _ _ | with_reducible exact HB.out | with_reducible apply Below.drew | with_reducible apply bdN | with_reducible refine Below.alloc ?_ (by first | exact Nat.le_refl _ | with_reducible exact HB.out.size | omega | (simp; done) | (simp; omega) | (have := HB.out.size; simp at *; omega)) _ | with_reducible refine Below.setCell ?_ (by first | exact Nat.le_refl _ | with_reducible exact HB.out.size | omega | (simp; done) | (simp; omega) | (have := HB.out.size; simp at *; omega)) _)) b)
    have HR := Lib.hid (RdG.below (by repeat (first | with_reducible exact HR.out | with_reducible apply RdG.drewN | with_reducible apply RdG.drew | with_reducible apply RdG.alloc)) b)
    have K1 : Hid (GBox _ (w.heap.size) (⟨27, s, nx, .slice p n c, .slice ps ns cs, .slice pw nw cw⟩)) := Lib.hid (GBox.below (by repeat (first | with_reducible exact K1.out | with_reducible apply GBox.drewN | with_reducible apply GBox.drew | (with_reducible refine GBox.newAt ?_ ?_ <;> first | (simp; done) | rfl) | with_reducible apply GBox.alloc)) b)
    try clear k1a k1b k1c k1d k1e k1z
    have k1z := K1.out.lt
    obtain ⟨k1a, k1b, k1c, k1d, k1e⟩ := K1.out.cell
    clear b
    go_wp2_with fail
    go_ret
    exact ⟨ret_bool HT.out.symm, by repeat (first | with_reducible exact Below.refl _ _ | with_reducible exact HB.out | with_reducible apply Below.drew | with_reducible apply bdN | with_reducible refine Below.alloc ?_ (by first | exact Nat.le_refl _ | with_reducible exact HB.out.size | omega | (simp; done) | (simp; omega) | (have := HB.out.size; simp at *; omega)) _ | with_reducible refine Below.setCell ?_ (by first | exact Nat.le_refl _ | with_reducible exact HB.out.size | omega | (simp; done) | (simp; omega) | (have := HB.out.size; simp at *; omega)) _)⟩
  · cases b2
    · have HT := Lib.hid (Gm.no (g := g) (fun h => by have h2 := of_decide_eq_false HB2.out; have h1 := h.p1; have h4 := h.p4; have h3 := HS.out; omega))
      obtain ⟨s, nx, l, sc, wt⟩ := g
      simp only at HR HD ⊢
      go_enter Try.func63, Try.ntmps63
      go_wp2_with fail
      refine ((HD.out _ (RdG.a (by repeat (first | with_reducible exact HR.out | with_reducible apply RdG.drewN | with_reducible apply RdG.drew | with_reducible apply RdG.alloc))))).mono ?_
      rintro e w1 ⟨rfl, b⟩
      have Sw1 := Lib.hid b.size
      have HB := Lib.hid (chain0 (w := w) (by repeat (first | with_reducible exact Below.refl _ _ | with_reducible exact HB.out | with_reducible apply Below.drew | with_reducible apply bdN | with_reducible refine Below.alloc ?_ (by first | exact Nat.le_refl _ | with_reducible exact HB.out.size | omega | (simp; done) | (simp; omega) | (have := HB.out.size; simp at *; omega)) _ | with_reducible refine Below.setCell ?_ (by first | exact Nat.le_refl _ | with_reducible exact HB.out.size | omega | (simp; done) | (simp; omega) | (have := HB.out.size; simp at *; omega)) _)) b)
      have HR := Lib.hid (RdG.below (by repeat (first | with_reducible exact HR.out | with_reducible apply RdG.drewN | with_reducible apply RdG.drew | with_reducible apply RdG.alloc)) b)
      have K1 : Hid (GBox _ (w.heap.size) (⟨27, s, nx, .slice p n c, .slice ps ns cs, .slice pw nw cw⟩)) := Lib.hid (GBox.below (by repeat (first | with_reducible exact K1.out | with_reducible apply GBox.drewN | with_reducible apply GBox.drew | (with_reducible refine GBox.newAt ?_ ?_ <;> first | (simp; done) | rfl) | with_reducible apply GBox.alloc)) b)
      try clear k1a k1b k1c k1d k1e k1z
      have k1z := K1.out.lt
      obtain ⟨k1a, k1b, k1c, k1d, k1e⟩ := K1.out.cell
      clear b
      go_wp2_with fail
      refine ((HP.out _)).mono ?_
      rintro e w2 ⟨rfl, b⟩
      have Sw2 := Lib.hid b.size
      have HB := Lib.hid (chain0 (w := w) (by repeat (first | with_reducible exact Below.refl _ _ | with_reducible exact HB.out | with_reducible apply Below.drew | with_reducible apply bdN | with_reducible refine Below.alloc ?_ (by first | exact Nat.le_refl _ | with_reducible exact HB.out.size | omega | (simp; done) | (simp; omega) | (have := HB.out.size; simp at *; omega)) _ | with_reducible refine Below.setCell ?_ (by first | exact Nat.le_refl _ | with_reducible exact HB.out.size | omega | (simp; done) | (simp; omega) | (have := HB.out.size; simp at *; omega)) _)) b)
      have HR := Lib.hid (RdG.below (by repeat (first | with_reducible exact HR.out | with_reducible apply RdG.drewN | with_reducible apply RdG.drew | with_reducible apply RdG.alloc)) b)
      have K1 : Hid (GBox _ (w.heap.size) (⟨27, s, nx, .slice p n c, .slice ps ns cs, .slice pw nw cw⟩)) := Lib.hid (GBox.below (by repeat (first | with_reducible exact K1.out | with_reducible apply GBox.drewN | with_reducible apply GBox.drew | (with_reducible refine GBox.newAt ?_ ?_ <;> first | (simp; done) | rfl) | with_reducible apply GBox.alloc)) b)
      try clear k1a k1b k1c k1d k1e k1z
      have k1z := K1.out.lt
      obtain ⟨k1a, k1b, k1c, k1d, k1e⟩ := K1.out.cell
      clear b
      go_wp2_with fail
      go_ret
      exact ⟨ret_bool HT.out.symm, by repeat (first | with_reducible exact Below.refl _ _ | with_reducible exact HB.out | with_reducible apply Below.drew | with_reducible apply bdN | with_reducible refine Below.alloc ?_ (by first | exact Nat.le_refl _ | with_reducible exact HB.out.size | omega | (simp; done) | (simp; omega) | (have := HB.out.size; simp at *; omega)) _ | with_reducible refine Below.setCell ?_ (by first | exact Nat.le_refl _ | with_reducible exact HB.out.size | omega | (simp; done) | (simp; omega) | (have := HB.out.size; simp at *; omega)) _)⟩
    · by_cases hw : nw = ns
      · subst hw
        have hi := of_decide_eq_true HB2.out
        have HE := Lib.hid (fun h => okT_end (g := g) (Dl.ok_iff.1 HB1.out) (by rw [HS.out]; omega) (by rw [HS.out]; omega) (by rw [HS.out, HW.out]) h)
        obtain ⟨s, nx, l, sc, wt⟩ := g
        simp only at HR HR0 HD HS HW HE ⊢
        have hn4 : nw ≤ 4 := by omega
        clear hi
        go_enter Try.func63, Try.ntmps63
        go_wp2_with fail
        refine ((HD.out _ (RdG.a (by repeat (first | with_reducible exact HR.out | with_reducible apply RdG.drewN | with_reducible apply RdG.drew | with_reducible apply RdG.alloc))))).mono ?_
        rintro e w1 ⟨rfl, b⟩
        have Sw1 := Lib.hid b.size
        have HB := Lib.hid (chain0 (w := w) (by repeat (first | with_reducible exact Below.refl _ _ | with_reducible exact HB.out | with_reducible apply Below.drew | with_reducible apply bdN | with_reducible refine Below.alloc ?_ (by first | exact Nat.le_refl _ | with_reducible exact HB.out.size | omega | (simp; done) | (simp; omega) | (have := HB.out.size; simp at *; omega)) _ | with_reducible refine Below.setCell ?_ (by first | exact Nat.le_refl _ | with_reducible exact HB.out.size | omega | (simp; done) | (simp; omega) | (have := HB.out.size; simp at *; omega)) _)) b)
        have HR := Lib.hid (RdG.below (by repeat (first | with_reducible exact HR.out | with_reducible apply RdG.drewN | with_reducible apply RdG.drew | with_reducible apply RdG.alloc)) b)
        have K1 : Hid (GBox _ (w.heap.size) (⟨27, s, nx, .slice p n c, .slice ps nw cs, .slice pw nw cw⟩)) := Lib.hid (GBox.below (by repeat (first | with_reducible exact K1.out | with_reducible apply GBox.drewN | with_reducible apply GBox.drew | (with_reducible refine GBox.newAt ?_ ?_ <;> first | (simp; done) | rfl) | with_reducible apply GBox.alloc)) b)
        try clear k1a k1b k1c k1d k1e k1z
        have k1z := K1.out.lt
        obtain ⟨k1a, k1b, k1c, k1d, k1e⟩ := K1.out.cell
        clear b
        go_wp2_with fail
        refine ((HP.out _)).mono ?_
        rintro e w2 ⟨rfl, b⟩
        have Sw2 := Lib.hid b.size
        have HB := Lib.hid (chain0 (w := w) (by repeat (first | with_reducible exact Below.refl _ _ | with_reducible exact HB.out | with_reducible apply Below.drew | with_reducible apply bdN | with_reducible refine Below.alloc ?_ (by first | exact Nat.le_refl _ | with_reducible exact HB.out.size | omega | (simp; done) | (simp; omega) | (have := HB.out.size; simp at *; omega)) _ | with_reducible refine Below.setCell ?_ (by first | exact Nat.le_refl _ | with_reducible exact HB.out.size | omega | (simp; done) | (simp; omega) | (have := HB.out.size; simp at *; omega)) _)) b)
        have HR := Lib.hid (RdG.below (by repeat (first | with_reducible exact HR.out | with_reducible apply RdG.drewN | with_reducible apply RdG.drew | with_reducible apply RdG.alloc)) b)
        have K1 : Hid (GBox _ (w.heap.size) (⟨27, s, nx, .slice p n c, .slice ps nw cs, .slice pw nw cw⟩)) := Lib.hid (GBox.below (by repeat (first | with_reducible exact K1.out | with_reducible apply GBox.drewN | with_reducible apply GBox.drew | (with_reducible refine GBox.newAt ?_ ?_ <;> first | (simp; done) | rfl) | with_reducible apply GBox.alloc)) b)
        try clear k1a k1b k1c k1d k1e k1z
        have k1z := K1.out.lt
        obtain ⟨k1a, k1b, k1c, k1d, k1e⟩ := K1.out.cell
        clear b
        go_wp2_with fail
        go_loopw [3] (fun i wr => ∃ k : Nat, k ≤ nw ∧ i = .int .i64 k ∧ Hid (okT ⟨s, nx, l, sc, wt⟩ k) ∧ Hid (Below w.heap.size w wr) ∧ Hid (GBox wr w.heap.size ⟨27, s, nx, .slice p n c, .slice ps nw cs, .slice pw nw cw⟩)) (fun i _ => nw - (intOf i).toNat)
        case atStart => exact ⟨0, Nat.zero_le _, rfl, Lib.hid (fun j h => by omega), HB, K1⟩
        case round =>
          clear HB K1 HR k1a k1b k1c k1d k1e k1z
          obtain ⟨k, hk, rfl, HI, HB, K1⟩ := hrel
          obtain ⟨k1a, k1b, k1c, k1d, k1e⟩ := K1.out.cell
          have k1z := K1.out.lt
          have m0 : (0 : Int) ≤ (k : Int) := by omega
          by_cases hlt : k < nw
          · have m1 : (k : Int) < (nw : Int) := by omega
            have HR := Lib.hid (RdG.below HR0.out HB.out)
            obtain ⟨b1, o1, x, rfl, hb1, hx, c0⟩ := HR.out.b.int (k := k) (by rw [HS.out]; exact hlt)
            obtain ⟨b2, o2, y, rfl, hb2, hy, d0⟩ := HR.out.c.int (k := k) (by rw [HW.out]; exact hlt)
            have HX := Lib.hid hx
            have HY := Lib.hid hy
            have HC1 := Lib.hid (fun w => l1_in x 0 60 w)
            have HC2 := Lib.hid (fun w => l1_in y 0 60 w)
            obtain ⟨q1, hq1⟩ : ∃ q1, decide (0 ≤ x ∧ x ≤ 60) = q1 := ⟨_, rfl⟩
            obtain ⟨q2, hq2⟩ : ∃ q2, decide (0 ≤ y ∧ y ≤ 60) = q2 := ⟨_, rfl⟩
            have HQ1 := Lib.hid hq1
            have HQ2 := Lib.hid hq2
            rw [hq1] at HC1
            rw [hq2] at HC2
            clear hx hy hq1 hq2
            cases q1
            · have HT := Lib.hid (Gm.no (g := ⟨s, nx, l, sc, wt⟩) (fun h => of_decide_eq_false HQ1.out (tly_at h.ts HX.out)))
              go_wp2_with fail
              refine (HC1.out _).mono ?_
              rintro e w3 ⟨rfl, b⟩
              have Sw3 := Lib.hid b.size
              have HB := Lib.hid (chain0 (w := w) (by repeat (first | with_reducible exact Below.refl _ _ | with_reducible exact HB.out | with_reducible apply Below.drew | with_reducible apply bdN | with_reducible refine Below.alloc ?_ (by first | exact Nat.le_refl _ | with_reducible exact HB.out.size | omega | (simp; done) | (simp; omega) | (have := HB.out.size; simp at *; omega)) _ | with_reducible refine Below.setCell ?_ (by first | exact Nat.le_refl _ | with_reducible exact HB.out.size | omega | (simp; done) | (simp; omega) | (have := HB.out.size; simp at *; omega)) _)) b)
              have K1 : Hid (GBox _ (w.heap.size) (⟨27, s, nx, .slice p n c, .slice (some ⟨b1, o1, none⟩) nw cs, .slice (some ⟨b2, o2, none⟩) nw cw⟩)) := Lib.hid (GBox.below (by repeat (first | with_reducible exact K1.out | with_reducible apply GBox.drewN | with_reducible apply GBox.drew | (with_reducible refine GBox.newAt ?_ ?_ <;> first | (simp; done) | rfl) | with_reducible apply GBox.alloc)) b)
              try clear k1a k1b k1c k1d k1e k1z
              have k1z := K1.out.lt
              obtain ⟨k1a, k1b, k1c, k1d, k1e⟩ := K1.out.cell
              clear b
              go_wp2_with fail
              go_ret
              exact ⟨ret_bool HT.out.symm, HB.out⟩
            · cases q2
              · have HT := Lib.hid (Gm.no (g := ⟨s, nx, l, sc, wt⟩) (fun h => of_decide_eq_false HQ2.out (tly_at h.tw HY.out)))
                go_wp2_with fail
                refine (HC1.out _).mono ?_
                rintro e w3 ⟨rfl, b⟩
                have d0 := (Below.cell b (p := ⟨b2, _, none⟩) hb2).trans d0
                have Sw3 := Lib.hid b.size
                have HB := Lib.hid (chain0 (w := w) (by repeat (first | with_reducible exact Below.refl _ _ | with_reducible exact HB.out | with_reducible apply Below.drew | with_reducible apply bdN | with_reducible refine Below.alloc ?_ (by first | exact Nat.le_refl _ | with_reducible exact HB.out.size | omega | (simp; done) | (simp; omega) | (have := HB.out.size; simp at *; omega)) _ | with_reducible refine Below.setCell ?_ (by first | exact Nat.le_refl _ | with_reducible exact HB.out.size | omega | (simp; done) | (simp; omega) | (have := HB.out.size; simp at *; omega)) _)) b)
                have K1 : Hid (GBox _ (w.heap.size) (⟨27, s, nx, .slice p n c, .slice (some ⟨b1, o1, none⟩) nw cs, .slice (some ⟨b2, o2, none⟩) nw cw⟩)) := Lib.hid (GBox.below (by repeat (first | with_reducible exact K1.out | with_reducible apply GBox.drewN | with_reducible apply GBox.drew | (with_reducible refine GBox.newAt ?_ ?_ <;> first | (simp; done) | rfl) | with_reducible apply GBox.alloc)) b)
                try clear k1a k1b k1c k1d k1e k1z
                have k1z := K1.out.lt
                obtain ⟨k1a, k1b, k1c, k1d, k1e⟩ := K1.out.cell
                clear b
                go_wp2_with fail
                refine (HC2.out _).mono ?_
                rintro e w4 ⟨rfl, b⟩
                have Sw4 := Lib.hid b.size
                have HB := Lib.hid (chain0 (w := w) (by repeat (first | with_reducible exact Below.refl _ _ | with_reducible exact HB.out | with_reducible apply Below.drew | with_reducible apply bdN | with_reducible refine Below.alloc ?_ (by first | exact Nat.le_refl _ | with_reducible exact HB.out.size | omega | (simp; done) | (simp; omega) | (have := HB.out.size; simp at *; omega)) _ | with_reducible refine Below.setCell ?_ (by first | exact Nat.le_refl _ | with_reducible exact HB.out.size | omega | (simp; done) | (simp; omega) | (have := HB.out.size; simp at *; omega)) _)) b)
                have K1 : Hid (GBox _ (w.heap.size) (⟨27, s, nx, .slice p n c, .slice (some ⟨b1, o1, none⟩) nw cs, .slice (some ⟨b2, o2, none⟩) nw cw⟩)) := Lib.hid (GBox.below (by repeat (first | with_reducible exact K1.out | with_reducible apply GBox.drewN | with_reducible apply GBox.drew | (with_reducible refine GBox.newAt ?_ ?_ <;> first | (simp; done) | rfl) | with_reducible apply GBox.alloc)) b)
                try clear k1a k1b k1c k1d k1e k1z
                have k1z := K1.out.lt
                obtain ⟨k1a, k1b, k1c, k1d, k1e⟩ := K1.out.cell
                clear b
                go_wp2_with fail
                go_ret
                exact ⟨ret_bool HT.out.symm, HB.out⟩
              · have HI2 : Hid (okT ⟨s, nx, l, sc, wt⟩ (k + 1)) := Lib.hid (fun j hj => by
                  rcases Nat.lt_or_ge j k with h | h
                  · exact HI.out j h
                  · obtain rfl : j = k := by omega
                    exact ⟨fun z hz => by have h1 : sc[j]? = some x := HX.out; rw [show sc[j]? = some z from hz] at h1; injection h1 with h1; subst h1; exact of_decide_eq_true HQ1.out, fun z hz => by have h1 : wt[j]? = some y := HY.out; rw [show wt[j]? = some z from hz] at h1; injection h1 with h1; subst h1; exact of_decide_eq_true HQ2.out⟩)
                go_wp2_with fail
                refine (HC1.out _).mono ?_
                rintro e w3 ⟨rfl, b⟩
                have d0 := (Below.cell b (p := ⟨b2, _, none⟩) hb2).trans d0
                have Sw3 := Lib.hid b.size
                have HB := Lib.hid (chain0 (w := w) (by repeat (first | with_reducible exact Below.refl _ _ | with_reducible exact HB.out | with_reducible apply Below.drew | with_reducible apply bdN | with_reducible refine Below.alloc ?_ (by first | exact Nat.le_refl _ | with_reducible exact HB.out.size | omega | (simp; done) | (simp; omega) | (have := HB.out.size; simp at *; omega)) _ | with_reducible refine Below.setCell ?_ (by first | exact Nat.le_refl _ | with_reducible exact HB.out.size | omega | (simp; done) | (simp; omega) | (have := HB.out.size; simp at *; omega)) _)) b)
                have K1 : Hid (GBox _ (w.heap.size) (⟨27, s, nx, .slice p n c, .slice (some ⟨b1, o1, none⟩) nw cs, .slice (some ⟨b2, o2, none⟩) nw cw⟩)) := Lib.hid (GBox.below (by repeat (first | with_reducible exact K1.out | with_reducible apply GBox.drewN | with_reducible apply GBox.drew | (with_reducible refine GBox.newAt ?_ ?_ <;> first | (simp; done) | rfl) | with_reducible apply GBox.alloc)) b)
                try clear k1a k1b k1c k1d k1e k1z
                have k1z := K1.out.lt
                obtain ⟨k1a, k1b, k1c, k1d, k1e⟩ := K1.out.cell
                clear b
                go_wp2_with fail
                refine (HC2.out _).mono ?_
                rintro e w4 ⟨rfl, b⟩
                have Sw4 := Lib.hid b.size
                have HB := Lib.hid (chain0 (w := w) (by repeat (first | with_reducible exact Below.refl _ _ | with_reducible exact HB.out | with_reducible apply Below.drew | with_reducible apply bdN | with_reducible refine Below.alloc ?_ (by first | exact Nat.le_refl _ | with_reducible exact HB.out.size | omega | (simp; done) | (simp; omega) | (have := HB.out.size; simp at *; omega)) _ | with_reducible refine Below.setCell ?_ (by first | exact Nat.le_refl _ | with_reducible exact HB.out.size | omega | (simp; done) | (simp; omega) | (have := HB.out.size; simp at *; omega)) _)) b)
                have K1 : Hid (GBox _ (w.heap.size) (⟨27, s, nx, .slice p n c, .slice (some ⟨b1, o1, none⟩) nw cs, .slice (some ⟨b2, o2, none⟩) nw cw⟩)) := Lib.hid (GBox.below (by repeat (first | with_reducible exact K1.out | with_reducible apply GBox.drewN | with_reducible apply GBox.drew | (with_reducible refine GBox.newAt ?_ ?_ <;> first | (simp; done) | rfl) | with_reducible apply GBox.alloc)) b)
                try clear k1a k1b k1c k1d k1e k1z
                have k1z := K1.out.lt
                obtain ⟨k1a, k1b, k1c, k1d, k1e⟩ := K1.out.cell
                clear b
                go_wp2_with fail
                go_roundw
                case rel => exact ⟨k + 1, by omega, by go_num, HI2, HB, K1⟩
                case measure => simp [intOf]; omega
          · obtain rfl : k = nw := by omega
            have HT := Lib.hid (HE.out (by show okT _ sc.length; rw [HS.out]; exact HI.out))
            go_wp2_with fail
            go_ret
            exact ⟨ret_bool HT.out.symm, HB.out⟩
      · have HT := Lib.hid (Gm.no (g := g) (fun h => by have h2 := h.eq; rw [HS.out, HW.out] at h2; exact hw h2))
        have hw2 : ((nw : Int) != (ns : Int)) = true := by simp; omega
        clear hw
        obtain ⟨s, nx, l, sc, wt⟩ := g
        simp only at HR HD ⊢
        go_enter Try.func63, Try.ntmps63
        go_wp2_with fail
        refine ((HD.out _ (RdG.a (by repeat (first | with_reducible exact HR.out | with_reducible apply RdG.drewN | with_reducible apply RdG.drew | with_reducible apply RdG.alloc))))).mono ?_
        rintro e w1 ⟨rfl, b⟩
        have Sw1 := Lib.hid b.size
        have HB := Lib.hid (chain0 (w := w) (by repeat (first | with_reducible exact Below.refl _ _ | with_reducible exact HB.out | with_reducible apply Below.drew | with_reducible apply bdN | with_reducible refine Below.alloc ?_ (by first | exact Nat.le_refl _ | with_reducible exact HB.out.size | omega | (simp; done) | (simp; omega) | (have := HB.out.size; simp at *; omega)) _ | with_reducible refine Below.setCell ?_ (by first | exact Nat.le_refl _ | with_reducible exact HB.out.size | omega | (simp; done) | (simp; omega) | (have := HB.out.size; simp at *; omega)) _)) b)
        have HR := Lib.hid (RdG.below (by repeat (first | with_reducible exact HR.out | with_reducible apply RdG.drewN | with_reducible apply RdG.drew | with_reducible apply RdG.alloc)) b)
        have K1 : Hid (GBox _ (w.heap.size) (⟨27, s, nx, .slice p n c, .slice ps ns cs, .slice pw nw cw⟩)) := Lib.hid (GBox.below (by repeat (first | with_reducible exact K1.out | with_reducible apply GBox.drewN | with_reducible apply GBox.drew | (with_reducible refine GBox.newAt ?_ ?_ <;> first | (simp; done) | rfl) | with_reducible apply GBox.alloc)) b)
        try clear k1a k1b k1c k1d k1e k1z
        have k1z := K1.out.lt
        obtain ⟨k1a, k1b, k1c, k1d, k1e⟩ := K1.out.cell
        clear b
        go_wp2_with fail
        refine ((HP.out _)).mono ?_
        rintro e w2 ⟨rfl, b⟩
        have Sw2 := Lib.hid b.size
        have HB := Lib.hid (chain0 (w := w) (by repeat (first | with_reducible exact Below.refl _ _ | with_reducible exact HB.out | with_reducible apply Below.drew | with_reducible apply bdN | with_reducible refine Below.alloc ?_ (by first | exact Nat.le_refl _ | with_reducible exact HB.out.size | omega | (simp; done) | (simp; omega) | (have := HB.out.size; simp at *; omega)) _ | with_reducible refine Below.setCell ?_ (by first | exact Nat.le_refl _ | with_reducible exact HB.out.size | omega | (simp; done) | (simp; omega) | (have := HB.out.size; simp at *; omega)) _)) b)
        have HR := Lib.hid (RdG.below (by repeat (first | with_reducible exact HR.out | with_reducible apply RdG.drewN | with_reducible apply RdG.drew | with_reducible apply RdG.alloc)) b)
        have K1 : Hid (GBox _ (w.heap.size) (⟨27, s, nx, .slice p n c, .slice ps ns cs, .slice pw nw cw⟩)) := Lib.hid (GBox.below (by repeat (first | with_reducible exact K1.out | with_reducible apply GBox.drewN | with_reducible apply GBox.drew | (with_reducible refine GBox.newAt ?_ ?_ <;> first | (simp; done) | rfl) | with_reducible apply GBox.alloc)) b)
        try clear k1a k1b k1c k1d k1e k1z
        have k1z := K1.out.lt
        obtain ⟨k1a, k1b, k1c, k1d, k1e⟩ := K1.out.cell
        clear b
        go_wp2_with fail
        go_ret
        exact ⟨ret_bool HT.out.symm, by repeat (first | with_reducible exact Below.refl _ _ | with_reducible exact HB.out | with_reducible apply Below.drew | with_reducible apply bdN | with_reducible refine Below.alloc ?_ (by first | exact Nat.le_refl _ | with_reducible exact HB.out.size | omega | (simp; done) | (simp; omega) | (have := HB.out.size; simp at *; omega)) _ | with_reducible refine Below.setCell ?_ (by first | exact Nat.le_refl _ | with_reducible exact HB.out.size | omega | (simp; done) | (simp; omega) | (have := HB.out.size; simp at *; omega)) _)⟩
end Go.Proofs.Yteccbcbijfcpmaa.game

/- Lines ahead, players, places, points: the program's and the model's. -/
namespace Go.Proofs.Yteccbcbijfcpmaa.game
open Go.RowKit
open cards deal
set_option linter.unusedVariables false

set_option maxHeartbeats 1000000 in
theorem lines_ahead (s nx : Int) (p : Option Addr) (n c : Nat) (w : World) (hn : n ≤ 81) (h0 : 0 ≤ nx) (h1 : nx ≤ 81) :
    Calls Try.prog 82 #[dval s nx (.slice p n c)] w fun e w' => e = .returned (.int .i64 (((n : Int) + 81 - nx) / 3)) ∧ Below w.heap.size w w' := by
  have hq : ((n : Int) + 81 - nx).tdiv 3 = ((n : Int) + 81 - nx) / 3 := Int.tdiv_eq_ediv_of_nonneg (by omega)
  go_enter Try.func82, Try.ntmps82
  go_wp2_with fail
  go_ret
  exact ⟨ret_int (by omega), by repeat (first | with_reducible exact Below.refl _ _ | with_reducible exact HB.out | with_reducible apply Below.drew | with_reducible apply bdN | with_reducible refine Below.alloc ?_ (by first | exact Nat.le_refl _ | with_reducible exact HB.out.size | omega | (simp; done) | (simp; omega) | (have := HB.out.size; simp at *; omega)) _ | with_reducible refine Below.setCell ?_ (by first | exact Nat.le_refl _ | with_reducible exact HB.out.size | omega | (simp; done) | (simp; omega) | (have := HB.out.size; simp at *; omega)) _)⟩
set_option maxHeartbeats 1000000 in
theorem l8_ahead (s nx : Int) (p ps pw : Option Addr) (n c ns cs nw cw : Nat) (w : World) (hn : n ≤ 81) (h0 : 0 ≤ nx) (h1 : nx ≤ 81) :
    Calls Try.prog 81 #[gval s nx (.slice p n c) (.slice ps ns cs) (.slice pw nw cw)] w fun e w' => e = .returned (.int .i64 (((n : Int) + 81 - nx) / 3)) ∧ Below w.heap.size w w' := by
  have hq : ((n : Int) + 81 - nx).tdiv 3 = ((n : Int) + 81 - nx) / 3 := Int.tdiv_eq_ediv_of_nonneg (by omega)
  go_enter Try.func81, Try.ntmps81
  go_wp2_with fail
  go_ret
  exact ⟨ret_int (by omega), by repeat (first | with_reducible exact Below.refl _ _ | with_reducible exact HB.out | with_reducible apply Below.drew | with_reducible apply bdN | with_reducible refine Below.alloc ?_ (by first | exact Nat.le_refl _ | with_reducible exact HB.out.size | omega | (simp; done) | (simp; omega) | (have := HB.out.size; simp at *; omega)) _ | with_reducible refine Below.setCell ?_ (by first | exact Nat.le_refl _ | with_reducible exact HB.out.size | omega | (simp; done) | (simp; omega) | (have := HB.out.size; simp at *; omega)) _)⟩
set_option maxHeartbeats 1000000 in
theorem is_player (s nx x : Int) (p ps pw : Option Addr) (n c ns cs nw cw : Nat) (w : World) :
    Calls Try.prog 83 #[gval s nx (.slice p n c) (.slice ps ns cs) (.slice pw nw cw), .int .i64 x] w fun e w' => e = .returned (.bool (isP ns x)) ∧ Below w.heap.size w w' := by
  by_cases h0 : 0 ≤ x
  · have HT := Lib.hid (show decide (x < ns) = isP ns x by unfold isP; simp [h0])
    go_enter Try.func83, Try.ntmps83
    go_wp2_with fail
    go_ret
    exact ⟨ret_bool HT.out, by repeat (first | with_reducible exact Below.refl _ _ | with_reducible exact HB.out | with_reducible apply Below.drew | with_reducible apply bdN | with_reducible refine Below.alloc ?_ (by first | exact Nat.le_refl _ | with_reducible exact HB.out.size | omega | (simp; done) | (simp; omega) | (have := HB.out.size; simp at *; omega)) _ | with_reducible refine Below.setCell ?_ (by first | exact Nat.le_refl _ | with_reducible exact HB.out.size | omega | (simp; done) | (simp; omega) | (have := HB.out.size; simp at *; omega)) _)⟩
  · have HT := Lib.hid (show false = isP ns x by unfold isP; simp [h0])
    go_enter Try.func83, Try.ntmps83
    go_wp2_with fail
    go_ret
    exact ⟨ret_bool HT.out, by repeat (first | with_reducible exact Below.refl _ _ | with_reducible exact HB.out | with_reducible apply Below.drew | with_reducible apply bdN | with_reducible refine Below.alloc ?_ (by first | exact Nat.le_refl _ | with_reducible exact HB.out.size | omega | (simp; done) | (simp; omega) | (have := HB.out.size; simp at *; omega)) _ | with_reducible refine Below.setCell ?_ (by first | exact Nat.le_refl _ | with_reducible exact HB.out.size | omega | (simp; done) | (simp; omega) | (have := HB.out.size; simp at *; omega)) _)⟩
set_option maxHeartbeats 2000000 in
theorem on_table (t : A3) (p : Option Addr) (n c : Nat) (w : World) :
    Calls Try.prog 106 #[.slice p n c, t.val] w fun e w' => e = .returned (.bool (onT n t)) ∧ Below w.heap.size w w' := by
  by_cases h0 : 0 ≤ t.a
  · by_cases h1 : t.a < t.b
    · by_cases h2 : t.b < t.c
      · have HT := Lib.hid (show decide (t.c < n) = onT n t by unfold onT; simp [h0, h1, h2])
        go_enter Try.func106, Try.ntmps106
        go_wp2_with fail
        go_ret
        exact ⟨ret_bool HT.out, by repeat (first | with_reducible exact Below.refl _ _ | with_reducible exact HB.out | with_reducible apply Below.drew | with_reducible apply bdN | with_reducible refine Below.alloc ?_ (by first | exact Nat.le_refl _ | with_reducible exact HB.out.size | omega | (simp; done) | (simp; omega) | (have := HB.out.size; simp at *; omega)) _ | with_reducible refine Below.setCell ?_ (by first | exact Nat.le_refl _ | with_reducible exact HB.out.size | omega | (simp; done) | (simp; omega) | (have := HB.out.size; simp at *; omega)) _)⟩
      · have HT := Lib.hid (show false = onT n t by unfold onT; simp [h0, h1, h2])
        go_enter Try.func106, Try.ntmps106
        go_wp2_with fail
        go_ret
        exact ⟨ret_bool HT.out, by repeat (first | with_reducible exact Below.refl _ _ | with_reducible exact HB.out | with_reducible apply Below.drew | with_reducible apply bdN | with_reducible refine Below.alloc ?_ (by first | exact Nat.le_refl _ | with_reducible exact HB.out.size | omega | (simp; done) | (simp; omega) | (have := HB.out.size; simp at *; omega)) _ | with_reducible refine Below.setCell ?_ (by first | exact Nat.le_refl _ | with_reducible exact HB.out.size | omega | (simp; done) | (simp; omega) | (have := HB.out.size; simp at *; omega)) _)⟩
    · have HT := Lib.hid (show false = onT n t by unfold onT; simp [h0, h1])
      go_enter Try.func106, Try.ntmps106
      go_wp2_with fail
      go_ret
      exact ⟨ret_bool HT.out, by repeat (first | with_reducible exact Below.refl _ _ | with_reducible exact HB.out | with_reducible apply Below.drew | with_reducible apply bdN | with_reducible refine Below.alloc ?_ (by first | exact Nat.le_refl _ | with_reducible exact HB.out.size | omega | (simp; done) | (simp; omega) | (have := HB.out.size; simp at *; omega)) _ | with_reducible refine Below.setCell ?_ (by first | exact Nat.le_refl _ | with_reducible exact HB.out.size | omega | (simp; done) | (simp; omega) | (have := HB.out.size; simp at *; omega)) _)⟩
  · have HT := Lib.hid (show false = onT n t by unfold onT; simp [h0])
    go_enter Try.func106, Try.ntmps106
    go_wp2_with fail
    go_ret
    exact ⟨ret_bool HT.out, by repeat (first | with_reducible exact Below.refl _ _ | with_reducible exact HB.out | with_reducible apply Below.drew | with_reducible apply bdN | with_reducible refine Below.alloc ?_ (by first | exact Nat.le_refl _ | with_reducible exact HB.out.size | omega | (simp; done) | (simp; omega) | (have := HB.out.size; simp at *; omega)) _ | with_reducible refine Below.setCell ?_ (by first | exact Nat.le_refl _ | with_reducible exact HB.out.size | omega | (simp; done) | (simp; omega) | (have := HB.out.size; simp at *; omega)) _)⟩

/-! Points. -/
theorem partP_set {g : Gm} {n k : Nat} {a b : Int} (h : (pts g).length = n) (hk : k < n) (ha : g.sc[k]? = some a) (hb : g.wr[k]? = some b) : (partI (pts g) n k).set k (a - b) = partI (pts g) n (k + 1) := partI_set h hk (pts_at ha hb)

set_option maxRecDepth 100000 in
set_option maxHeartbeats 2000000 in
theorem player_points (g : Gm) (p ps pw : Option Addr) (n c ns cs cw : Nat) (w : World) (hs : g.sc.length = ns) (hw : g.wr.length = ns) (hl : ns ≤ 1000) (hts : tly g.sc = true) (htw : tly g.wr = true) (hr : RdG w p ps pw g.l g.sc g.wr) :
    Calls Try.prog 78 #[gval g.s g.nx (.slice p n c) (.slice ps ns cs) (.slice pw ns cw)] w fun e w' => ∃ v, e = .returned v ∧ OwnI w' w.heap.size v (pts g) ∧ Below w.heap.size w w' := by
  have HS := Lib.hid hs
  have HW := Lib.hid hw
  have HR0 := Lib.hid hr
  have HTs := Lib.hid hts
  have HTw := Lib.hid htw
  have HPl := Lib.hid ((pts_len (g := g) (by rw [hs, hw])).trans hs)
  have HPs := Lib.hid (fun k a b => partP_set (g := g) (n := ns) (k := k) (a := a) (b := b) HPl.out)
  have hmk := madeI ns (by omega)
  obtain ⟨P, hP⟩ : ∃ P, pts g = P := ⟨_, rfl⟩
  rw [hP] at HPl HPs ⊢
  obtain ⟨s, nx, l, sc, wt⟩ := g
  simp only at HS HW HR0 HTs HTw HPs ⊢
  clear hs hw hr hts htw hP
  have K1 : Hid (GBox (w.alloc (Gv.obj ⟨27, s, nx, .slice p n c, .slice ps ns cs, .slice pw ns cw⟩)) w.heap.size ⟨27, s, nx, .slice p n c, .slice ps ns cs, .slice pw ns cw⟩) := Lib.hid (GBox.newAt rfl rfl)
  have HB : Hid (Below w.heap.size w (w.alloc (Gv.obj ⟨27, s, nx, .slice p n c, .slice ps ns cs, .slice pw ns cw⟩))) := Lib.hid ((Below.refl _ _).alloc (Nat.le_refl _) _)
  go_enter Try.func78, Try.ntmps78
  go_upto_region 1 with fail
  obtain ⟨W, hW⟩ : ∃ W, W = w.alloc (Gv.obj ⟨27, s, nx, .slice p n c, .slice ps ns cs, .slice pw ns cw⟩) := ⟨_, rfl⟩
  rw [← hW] at K1 HB
  rw [← hW]
  clear hW
  obtain ⟨k1a, k1b, k1c, k1d, k1e⟩ := K1.out.cell
  have k1z := K1.out.lt
  have HO := Lib.hid (own_madeI W ns (by omega))
  have K1a := Lib.hid (K1.out.alloc (.cells (madeCells #[Value.int .i64 0] ns) 3))
  have HB1 := Lib.hid (HB.out.alloc HB.out.size (.cells (madeCells #[Value.int .i64 0] ns) 3))
  have HWs := HB.out.size
  rw [← partI_zero P ns] at HO
  go_wp2_with fail
  go_loopw [4, 5, 13] (fun _ _ i wr => ∃ k : Nat, k ≤ ns ∧ i = .int .i64 k ∧ Hid (OwnI wr W.heap.size (.slice (some ⟨W.heap.size, 0, none⟩) ns ns) (partI P ns k)) ∧ Hid (Below w.heap.size w wr) ∧ Hid (GBox wr w.heap.size ⟨27, s, nx, .slice p n c, .slice ps ns cs, .slice pw ns cw⟩)) (fun _ _ i _ => ns - (intOf i).toNat)
  case atStart => exact ⟨0, Nat.zero_le _, rfl, HO, HB1, K1a⟩
  case round =>
    clear HB HB1 K1a k1a k1b k1c k1d k1e HO
    have K1z := Lib.hid k1z
    clear K1 hmk
    obtain ⟨k, hk, rfl, HO, HB, K1⟩ := hrel
    clear k1z
    obtain ⟨k1a, k1b, k1c, k1d, k1e⟩ := K1.out.cell
    have k1z := K1.out.lt
    have m0 : (0 : Int) ≤ (k : Int) := by omega
    by_cases hlt : k < ns
    · have m1 : (k : Int) < (ns : Int) := by omega
      have HR := Lib.hid (RdG.below HR0.out HB.out)
      obtain ⟨b1, o1, x, rfl, hb1, hx, c0⟩ := HR.out.b.int (k := k) (by rw [HS.out]; exact hlt)
      obtain ⟨b2, o2, y, rfl, hb2, hy, d0⟩ := HR.out.c.int (k := k) (by rw [HW.out]; exact hlt)
      obtain ⟨hx0, hx1⟩ := tly_at HTs.out hx
      obtain ⟨hy0, hy1⟩ := tly_at HTw.out hy
      have HP := Lib.hid (HPs.out k x y hlt hx hy)
      obtain ⟨z, hz, f0, hf, hB, hg⟩ := HO.out.slot (partI_len HPl.out hk) k hlt
      have HSt := Lib.hid (HO.out.store (partI_len HPl.out hk) k (x - y))
      rw [HP.out] at HSt
      have HB2 := Lib.hid (HB.out.setCell (p := ⟨W.heap.size, k, none⟩) HWs (.int .i64 (x - y)))
      have K2 := Lib.hid (K1.out.farW (show w.heap.size ≠ W.heap.size from Nat.ne_of_lt K1z.out) k (.int .i64 (x - y)))
      clear hx hy hz HO
      go_wp2_with fail
      go_roundw
      case rel => exact ⟨k + 1, by omega, by go_num, HSt, HB2, K2⟩
      case measure => simp [intOf]; omega
    · obtain rfl : k = ns := by omega
      rw [partI_all HPl.out] at HO
      go_wp2_with fail
      go_ret
      exact ⟨_, rfl, OwnI.base HO.out HWs, HB.out⟩
end Go.Proofs.Yteccbcbijfcpmaa.game

/- IsGame, LinesAhead, PointsOf: the exported functions, the program's and the model's. -/
namespace Go.Proofs.Yteccbcbijfcpmaa.game
open Go.RowKit
open cards deal
set_option linter.unusedVariables false

set_option maxHeartbeats 1000000 in
theorem spec_isgame (g : Gm) (p ps pw : Option Addr) (n c ns cs nw cw : Nat) (w : World) (hf : FitG n c ns cs nw cw p ps pw g) (hr : RdG w p ps pw g.l g.sc g.wr) :
    Calls Try.prog 21 #[gval g.s g.nx (.slice p n c) (.slice ps ns cs) (.slice pw nw cw)] w fun e w' => e = .returned (.bool g.ok) ∧ Below w.heap.size w w' := by
  have HR := Lib.hid hr
  have HC := Lib.hid (fun w h => l8_game g p ps pw n c ns cs nw cw w hf h)
  obtain ⟨ok, hok⟩ : ∃ ok, g.ok = ok := ⟨_, rfl⟩
  rw [hok] at HC ⊢
  clear hf hr hok
  go_enter Try.func21, Try.ntmps21
  go_wp2_with fail
  refine ((HC.out _ (RdG.alloc HR.out _))).mono ?_
  rintro e w1 ⟨rfl, b⟩
  have Sw1 := Lib.hid b.size
  have HB := Lib.hid (chain0 (w := w) (by repeat (first | with_reducible exact Below.refl _ _ | with_reducible exact HB.out | with_reducible apply Below.drew | with_reducible apply bdN | with_reducible refine Below.alloc ?_ (by first | exact Nat.le_refl _ | with_reducible exact HB.out.size | omega | (simp; done) | (simp; omega) | (have := HB.out.size; simp at *; omega)) _ | with_reducible refine Below.setCell ?_ (by first | exact Nat.le_refl _ | with_reducible exact HB.out.size | omega | (simp; done) | (simp; omega) | (have := HB.out.size; simp at *; omega)) _)) b)
  have HR := Lib.hid (RdG.below (by repeat (first | with_reducible exact HR.out | with_reducible apply RdG.drewN | with_reducible apply RdG.drew | with_reducible apply RdG.alloc)) b)
  clear b
  go_wp2_with fail
  go_ret
  exact ⟨rfl, by repeat (first | with_reducible exact Below.refl _ _ | with_reducible exact HB.out | with_reducible apply Below.drew | with_reducible apply bdN | with_reducible refine Below.alloc ?_ (by first | exact Nat.le_refl _ | with_reducible exact HB.out.size | omega | (simp; done) | (simp; omega) | (have := HB.out.size; simp at *; omega)) _ | with_reducible refine Below.setCell ?_ (by first | exact Nat.le_refl _ | with_reducible exact HB.out.size | omega | (simp; done) | (simp; omega) | (have := HB.out.size; simp at *; omega)) _)⟩

/-! Lines ahead. -/
noncomputable def laR (g : Gm) : Int × Bool := if g.ok = true then (ahead g.d, true) else (0, false)
set_option maxRecDepth 100000 in
set_option maxHeartbeats 1000000 in
theorem impl_la (g : Gm) (p ps pw : Option Addr) (n c ns cs nw cw : Nat) (w : World) (hf : FitG n c ns cs nw cw p ps pw g) (hr : RdG w p ps pw g.l g.sc g.wr) :
    Calls Try.prog 44 #[gval g.s g.nx (.slice p n c) (.slice ps ns cs) (.slice pw nw cw)] w fun e w' => e = .returned (.tuple #[.int .i64 (laR g).1, .bool (laR g).2]) ∧ Below w.heap.size w w' := by
  have HR := Lib.hid hr
  have HF := Lib.hid hf
  have HC := Lib.hid (fun w h => is_game g p ps pw n c ns cs nw cw w hf h)
  clear hf hr
  cases hok : g.ok
  · have HT := Lib.hid (show laR g = (0, false) by unfold laR; rw [if_neg (by simp [hok])])
    rw [hok] at HC
    rw [HT.out]
    clear hok HT
    obtain ⟨s, nx, l, sc, wt⟩ := g
    simp only at HR HC ⊢
    go_enter Try.func44, Try.ntmps44
    go_wp2_with fail
    refine ((HC.out _ (RdG.alloc HR.out _))).mono ?_
    rintro e w1 ⟨rfl, b⟩
    have Sw1 := Lib.hid b.size
    have HB := Lib.hid (chain0 (w := w) (by repeat (first | with_reducible exact Below.refl _ _ | with_reducible exact HB.out | with_reducible apply Below.drew | with_reducible apply bdN | with_reducible refine Below.alloc ?_ (by first | exact Nat.le_refl _ | with_reducible exact HB.out.size | omega | (simp; done) | (simp; omega) | (have := HB.out.size; simp at *; omega)) _ | with_reducible refine Below.setCell ?_ (by first | exact Nat.le_refl _ | with_reducible exact HB.out.size | omega | (simp; done) | (simp; omega) | (have := HB.out.size; simp at *; omega)) _)) b)
    have HR := Lib.hid (RdG.below (by repeat (first | with_reducible exact HR.out | with_reducible apply RdG.drewN | with_reducible apply RdG.drew | with_reducible apply RdG.alloc)) b)
    have K1 : Hid (GBox _ (w.heap.size) (⟨27, s, nx, .slice p n c, .slice ps ns cs, .slice pw nw cw⟩)) := Lib.hid (GBox.below (by repeat (first | with_reducible exact K1.out | with_reducible apply GBox.drewN | with_reducible apply GBox.drew | (with_reducible refine GBox.newAt ?_ ?_ <;> first | (simp; done) | rfl) | with_reducible apply GBox.alloc)) b)
    try clear k1a k1b k1c k1d k1e k1z
    have k1z := K1.out.lt
    obtain ⟨k1a, k1b, k1c, k1d, k1e⟩ := K1.out.cell
    clear b
    go_wp2_with fail
    go_ret2
    exact ⟨rfl, by repeat (first | with_reducible exact Below.refl _ _ | with_reducible exact HB.out | with_reducible apply Below.drew | with_reducible apply bdN | with_reducible refine Below.alloc ?_ (by first | exact Nat.le_refl _ | with_reducible exact HB.out.size | omega | (simp; done) | (simp; omega) | (have := HB.out.size; simp at *; omega)) _ | with_reducible refine Below.setCell ?_ (by first | exact Nat.le_refl _ | with_reducible exact HB.out.size | omega | (simp; done) | (simp; omega) | (have := HB.out.size; simp at *; omega)) _)⟩
  · have HO := Lib.hid (Gm.ok_iff.1 hok)
    have HT := Lib.hid (show laR g = (((n : Int) + 81 - g.nx) / 3, true) by unfold laR; rw [if_pos hok]; unfold ahead Gm.d; simp only; rw [HF.out.hn])
    have hn : n ≤ 81 := by have h := HO.out.d.len81; have h2 := HF.out.hn; have h3 : g.l.length ≤ 81 := h; omega
    have hx := HO.out.d.2.1
    have hx1 : 0 ≤ g.nx := hx.1
    have hx2 : g.nx ≤ 81 := hx.2
    rw [hok] at HC
    rw [HT.out]
    clear hok HT hx
    obtain ⟨s, nx, l, sc, wt⟩ := g
    simp only at HR HC hx1 hx2 ⊢
    have HL := Lib.hid (fun w => lines_ahead s nx p n c w hn hx1 hx2)
    obtain ⟨v, hv⟩ : ∃ v, ((n : Int) + 81 - nx) / 3 = v := ⟨_, rfl⟩
    rw [hv] at HL ⊢
    clear hv
    go_enter Try.func44, Try.ntmps44
    go_wp2_with fail
    refine ((HC.out _ (RdG.alloc HR.out _))).mono ?_
    rintro e w1 ⟨rfl, b⟩
    have Sw1 := Lib.hid b.size
    have HB := Lib.hid (chain0 (w := w) (by repeat (first | with_reducible exact Below.refl _ _ | with_reducible exact HB.out | with_reducible apply Below.drew | with_reducible apply bdN | with_reducible refine Below.alloc ?_ (by first | exact Nat.le_refl _ | with_reducible exact HB.out.size | omega | (simp; done) | (simp; omega) | (have := HB.out.size; simp at *; omega)) _ | with_reducible refine Below.setCell ?_ (by first | exact Nat.le_refl _ | with_reducible exact HB.out.size | omega | (simp; done) | (simp; omega) | (have := HB.out.size; simp at *; omega)) _)) b)
    have HR := Lib.hid (RdG.below (by repeat (first | with_reducible exact HR.out | with_reducible apply RdG.drewN | with_reducible apply RdG.drew | with_reducible apply RdG.alloc)) b)
    have K1 : Hid (GBox _ (w.heap.size) (⟨27, s, nx, .slice p n c, .slice ps ns cs, .slice pw nw cw⟩)) := Lib.hid (GBox.below (by repeat (first | with_reducible exact K1.out | with_reducible apply GBox.drewN | with_reducible apply GBox.drew | (with_reducible refine GBox.newAt ?_ ?_ <;> first | (simp; done) | rfl) | with_reducible apply GBox.alloc)) b)
    try clear k1a k1b k1c k1d k1e k1z
    have k1z := K1.out.lt
    obtain ⟨k1a, k1b, k1c, k1d, k1e⟩ := K1.out.cell
    clear b
    go_wp2_with fail
    refine ((HL.out _)).mono ?_
    rintro e w2 ⟨rfl, b⟩
    have Sw2 := Lib.hid b.size
    have HB := Lib.hid (chain0 (w := w) (by repeat (first | with_reducible exact Below.refl _ _ | with_reducible exact HB.out | with_reducible apply Below.drew | with_reducible apply bdN | with_reducible refine Below.alloc ?_ (by first | exact Nat.le_refl _ | with_reducible exact HB.out.size | omega | (simp; done) | (simp; omega) | (have := HB.out.size; simp at *; omega)) _ | with_reducible refine Below.setCell ?_ (by first | exact Nat.le_refl _ | with_reducible exact HB.out.size | omega | (simp; done) | (simp; omega) | (have := HB.out.size; simp at *; omega)) _)) b)
    have HR := Lib.hid (RdG.below (by repeat (first | with_reducible exact HR.out | with_reducible apply RdG.drewN | with_reducible apply RdG.drew | with_reducible apply RdG.alloc)) b)
    have K1 : Hid (GBox _ (w.heap.size) (⟨27, s, nx, .slice p n c, .slice ps ns cs, .slice pw nw cw⟩)) := Lib.hid (GBox.below (by repeat (first | with_reducible exact K1.out | with_reducible apply GBox.drewN | with_reducible apply GBox.drew | (with_reducible refine GBox.newAt ?_ ?_ <;> first | (simp; done) | rfl) | with_reducible apply GBox.alloc)) b)
    try clear k1a k1b k1c k1d k1e k1z
    have k1z := K1.out.lt
    obtain ⟨k1a, k1b, k1c, k1d, k1e⟩ := K1.out.cell
    clear b
    go_wp2_with fail
    go_ret2
    exact ⟨rfl, by repeat (first | with_reducible exact Below.refl _ _ | with_reducible exact HB.out | with_reducible apply Below.drew | with_reducible apply bdN | with_reducible refine Below.alloc ?_ (by first | exact Nat.le_refl _ | with_reducible exact HB.out.size | omega | (simp; done) | (simp; omega) | (have := HB.out.size; simp at *; omega)) _ | with_reducible refine Below.setCell ?_ (by first | exact Nat.le_refl _ | with_reducible exact HB.out.size | omega | (simp; done) | (simp; omega) | (have := HB.out.size; simp at *; omega)) _)⟩
set_option maxRecDepth 100000 in
set_option maxHeartbeats 1000000 in
theorem spec_la (g : Gm) (p ps pw : Option Addr) (n c ns cs nw cw : Nat) (w : World) (hf : FitG n c ns cs nw cw p ps pw g) (hr : RdG w p ps pw g.l g.sc g.wr) :
    Calls Try.prog 43 #[gval g.s g.nx (.slice p n c) (.slice ps ns cs) (.slice pw nw cw)] w fun e w' => e = .returned (.tuple #[.int .i64 (laR g).1, .bool (laR g).2]) ∧ Below w.heap.size w w' := by
  have HR := Lib.hid hr
  have HF := Lib.hid hf
  have HC := Lib.hid (fun w h => l8_game g p ps pw n c ns cs nw cw w hf h)
  clear hf hr
  cases hok : g.ok
  · have HT := Lib.hid (show laR g = (0, false) by unfold laR; rw [if_neg (by simp [hok])])
    rw [hok] at HC
    rw [HT.out]
    clear hok HT
    obtain ⟨s, nx, l, sc, wt⟩ := g
    simp only at HR HC ⊢
    go_enter Try.func43, Try.ntmps43
    go_wp2_with fail
    refine ((HC.out _ (RdG.alloc HR.out _))).mono ?_
    rintro e w1 ⟨rfl, b⟩
    have Sw1 := Lib.hid b.size
    have HB := Lib.hid (chain0 (w := w) (by repeat (first | with_reducible exact Below.refl _ _ | with_reducible exact HB.out | with_reducible apply Below.drew | with_reducible apply bdN | with_reducible refine Below.alloc ?_ (by first | exact Nat.le_refl _ | with_reducible exact HB.out.size | omega | (simp; done) | (simp; omega) | (have := HB.out.size; simp at *; omega)) _ | with_reducible refine Below.setCell ?_ (by first | exact Nat.le_refl _ | with_reducible exact HB.out.size | omega | (simp; done) | (simp; omega) | (have := HB.out.size; simp at *; omega)) _)) b)
    have HR := Lib.hid (RdG.below (by repeat (first | with_reducible exact HR.out | with_reducible apply RdG.drewN | with_reducible apply RdG.drew | with_reducible apply RdG.alloc)) b)
    have K1 : Hid (GBox _ (w.heap.size) (⟨27, s, nx, .slice p n c, .slice ps ns cs, .slice pw nw cw⟩)) := Lib.hid (GBox.below (by repeat (first | with_reducible exact K1.out | with_reducible apply GBox.drewN | with_reducible apply GBox.drew | (with_reducible refine GBox.newAt ?_ ?_ <;> first | (simp; done) | rfl) | with_reducible apply GBox.alloc)) b)
    try clear k1a k1b k1c k1d k1e k1z
    have k1z := K1.out.lt
    obtain ⟨k1a, k1b, k1c, k1d, k1e⟩ := K1.out.cell
    clear b
    go_wp2_with fail
    go_ret2
    exact ⟨rfl, by repeat (first | with_reducible exact Below.refl _ _ | with_reducible exact HB.out | with_reducible apply Below.drew | with_reducible apply bdN | with_reducible refine Below.alloc ?_ (by first | exact Nat.le_refl _ | with_reducible exact HB.out.size | omega | (simp; done) | (simp; omega) | (have := HB.out.size; simp at *; omega)) _ | with_reducible refine Below.setCell ?_ (by first | exact Nat.le_refl _ | with_reducible exact HB.out.size | omega | (simp; done) | (simp; omega) | (have := HB.out.size; simp at *; omega)) _)⟩
  · have HO := Lib.hid (Gm.ok_iff.1 hok)
    have HT := Lib.hid (show laR g = (((n : Int) + 81 - g.nx) / 3, true) by unfold laR; rw [if_pos hok]; unfold ahead Gm.d; simp only; rw [HF.out.hn])
    have hn : n ≤ 81 := by have h := HO.out.d.len81; have h2 := HF.out.hn; have h3 : g.l.length ≤ 81 := h; omega
    have hx := HO.out.d.2.1
    have hx1 : 0 ≤ g.nx := hx.1
    have hx2 : g.nx ≤ 81 := hx.2
    rw [hok] at HC
    rw [HT.out]
    clear hok HT hx
    obtain ⟨s, nx, l, sc, wt⟩ := g
    simp only at HR HC hx1 hx2 ⊢
    have HL := Lib.hid (fun w => l8_ahead s nx p ps pw n c ns cs nw cw w hn hx1 hx2)
    obtain ⟨v, hv⟩ : ∃ v, ((n : Int) + 81 - nx) / 3 = v := ⟨_, rfl⟩
    rw [hv] at HL ⊢
    clear hv
    go_enter Try.func43, Try.ntmps43
    go_wp2_with fail
    refine ((HC.out _ (RdG.alloc HR.out _))).mono ?_
    rintro e w1 ⟨rfl, b⟩
    have Sw1 := Lib.hid b.size
    have HB := Lib.hid (chain0 (w := w) (by repeat (first | with_reducible exact Below.refl _ _ | with_reducible exact HB.out | with_reducible apply Below.drew | with_reducible apply bdN | with_reducible refine Below.alloc ?_ (by first | exact Nat.le_refl _ | with_reducible exact HB.out.size | omega | (simp; done) | (simp; omega) | (have := HB.out.size; simp at *; omega)) _ | with_reducible refine Below.setCell ?_ (by first | exact Nat.le_refl _ | with_reducible exact HB.out.size | omega | (simp; done) | (simp; omega) | (have := HB.out.size; simp at *; omega)) _)) b)
    have HR := Lib.hid (RdG.below (by repeat (first | with_reducible exact HR.out | with_reducible apply RdG.drewN | with_reducible apply RdG.drew | with_reducible apply RdG.alloc)) b)
    have K1 : Hid (GBox _ (w.heap.size) (⟨27, s, nx, .slice p n c, .slice ps ns cs, .slice pw nw cw⟩)) := Lib.hid (GBox.below (by repeat (first | with_reducible exact K1.out | with_reducible apply GBox.drewN | with_reducible apply GBox.drew | (with_reducible refine GBox.newAt ?_ ?_ <;> first | (simp; done) | rfl) | with_reducible apply GBox.alloc)) b)
    try clear k1a k1b k1c k1d k1e k1z
    have k1z := K1.out.lt
    obtain ⟨k1a, k1b, k1c, k1d, k1e⟩ := K1.out.cell
    clear b
    go_wp2_with fail
    refine ((HL.out _)).mono ?_
    rintro e w2 ⟨rfl, b⟩
    have Sw2 := Lib.hid b.size
    have HB := Lib.hid (chain0 (w := w) (by repeat (first | with_reducible exact Below.refl _ _ | with_reducible exact HB.out | with_reducible apply Below.drew | with_reducible apply bdN | with_reducible refine Below.alloc ?_ (by first | exact Nat.le_refl _ | with_reducible exact HB.out.size | omega | (simp; done) | (simp; omega) | (have := HB.out.size; simp at *; omega)) _ | with_reducible refine Below.setCell ?_ (by first | exact Nat.le_refl _ | with_reducible exact HB.out.size | omega | (simp; done) | (simp; omega) | (have := HB.out.size; simp at *; omega)) _)) b)
    have HR := Lib.hid (RdG.below (by repeat (first | with_reducible exact HR.out | with_reducible apply RdG.drewN | with_reducible apply RdG.drew | with_reducible apply RdG.alloc)) b)
    have K1 : Hid (GBox _ (w.heap.size) (⟨27, s, nx, .slice p n c, .slice ps ns cs, .slice pw nw cw⟩)) := Lib.hid (GBox.below (by repeat (first | with_reducible exact K1.out | with_reducible apply GBox.drewN | with_reducible apply GBox.drew | (with_reducible refine GBox.newAt ?_ ?_ <;> first | (simp; done) | rfl) | with_reducible apply GBox.alloc)) b)
    try clear k1a k1b k1c k1d k1e k1z
    have k1z := K1.out.lt
    obtain ⟨k1a, k1b, k1c, k1d, k1e⟩ := K1.out.cell
    clear b
    go_wp2_with fail
    go_ret2
    exact ⟨rfl, by repeat (first | with_reducible exact Below.refl _ _ | with_reducible exact HB.out | with_reducible apply Below.drew | with_reducible apply bdN | with_reducible refine Below.alloc ?_ (by first | exact Nat.le_refl _ | with_reducible exact HB.out.size | omega | (simp; done) | (simp; omega) | (have := HB.out.size; simp at *; omega)) _ | with_reducible refine Below.setCell ?_ (by first | exact Nat.le_refl _ | with_reducible exact HB.out.size | omega | (simp; done) | (simp; omega) | (have := HB.out.size; simp at *; omega)) _)⟩
end Go.Proofs.Yteccbcbijfcpmaa.game

