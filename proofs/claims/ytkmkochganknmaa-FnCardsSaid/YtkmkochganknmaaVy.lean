/- Regions that draw their order and end in one store into a block that was there: what stays is all but that block. -/
import Derived.Test.YtkmkochganknmaaVx
namespace Go.Proofs.Ytkmkochganknmaa.cards
open Go.RowKit
open reg
set_option linter.unusedVariables false

/-- All but block g is as it was. -/
def GS (W : World) (g : Nat) (w' : World) : Prop := W.grownBy w' (some g)
theorem BI.gs {W w' : World} (g : Nat) (h : BI W w') : GS W g w' := ⟨Below.os h, Below.tape h, Below.output h, Below.size h, fun j hj _ => Below.block h j hj⟩
theorem clo_GS (W : World) (g : Nat) (obj : Obj) : Clo W.heap.size obj (GS W g) (BI W) := ⟨fun _ h => BI.gs g h, fun _ h => Below.size h, fun _ h => Below.alloc h (Below.size h) _⟩
theorem GS.set_ {W w' : World} {g : Nat} (h : GS W g w') (j : Nat) (v : Value) : GS W g (w'.setCell ⟨g, j, none⟩ v) := World.grownBy.trans h (grown_setV _ _ _ _)
theorem GS.box {W w' : World} {g k : Nat} {x : Cd} (h : GS W g w') (hb : Box W k x) (hk : k ≠ g) : Box w' k x := (World.grownBy.block h k hb.lt (fun e => hk (by injection e))).trans hb
theorem GS.cell {W w' : World} {g b o : Nat} {v : Value} (h : GS W g w') (hc : W.cell? ⟨b, o, none⟩ = some v) (hb : b < W.heap.size) (hk : b ≠ g) : w'.cell? ⟨b, o, none⟩ = some v := by
  have e := World.grownBy.block h b hb (fun e => hk (by injection e))
  unfold World.cell? at hc ⊢
  rw [e]; exact hc
section
variable {ops : Array Oper} {Q : Exit → Act → World → Prop} {n0 : Nat} {obj : Obj} {fin : Act → (World → Prop) → Prop} {S : World → Prop}
theorem chain_callG (d : Tmp) {i : Nat} {r : List (Bool × Nat)} {a : Act} {W : World} {g : Nat} {f : FuncId} {args : Array Value} {v : Value} {o : Oper} (ho : ops[i]? = some o) (hd : o.dst = some d) (hg : o.guard = none)
    (he : ∀ w, (execOp a.eval o).run Try.prog w = .ok (.enter f args) w) (h : ∀ w, BI W w → Calls Try.prog f args w (fun e w' => e = .returned v ∧ Below w.heap.size w w'))
    (hr : chainA Try.prog ops (GS W g) W.heap.size obj fin r (a.put (some d) v) (BI W)) : chainA Try.prog ops (GS W g) W.heap.size obj fin ((false, i) :: r) a (BI W) :=
  ⟨o, ho, hg, fun w hI => by
    rw [he]
    exact (h w hI).mono fun e w' ⟨h1, h2⟩ => ⟨v, h1, h2, BI W, clo_GS W g obj, BI.next hI h2, hd ▸ hr⟩⟩
/-- A card is read out of a row. -/
theorem chain_card (d : Tmp) {i : Nat} {r : List (Bool × Nat)} {a : Act} {I : World → Prop} {o : Oper} (ho : ops[i]? = some o) (hd : o.dst = some d) (hg : o.guard = none)
    (x : Operand) (hx : o.op = .load 24 x) {g off : Nat} (hp : a.eval x = .pointer (some ⟨g, off, none⟩)) (c : Cd)
    (hS : ∀ w, S w → w.cell? ⟨g, off, none⟩ = some (.int .i64 c.a) ∧ w.cell? ⟨g, off + 1, none⟩ = some (.int .i64 c.b) ∧ w.cell? ⟨g, off + 2, none⟩ = some (.int .i64 c.c) ∧ w.cell? ⟨g, off + 3, none⟩ = some (.int .i64 c.d))
    (hr : chainA Try.prog ops S n0 obj fin r (a.put (some d) c.val) I) : chainA Try.prog ops S n0 obj fin ((true, i) :: r) a I :=
  ⟨o, c.val, ho, yieldsIf_load_mid (wanted_of hg) 24 x hx g off hp c.cells _ (fun w hw j v hv => by
    obtain ⟨h0, h1, h2, h3⟩ := hS w hw
    match j, hv with
    | 0, hv => simp [Cd.cells] at hv; rw [← hv]; exact h0
    | 1, hv => simp [Cd.cells] at hv; rw [← hv]; exact h1
    | 2, hv => simp [Cd.cells] at hv; rw [← hv]; exact h2
    | 3, hv => simp [Cd.cells] at hv; rw [← hv]; exact h3
    | n + 4, hv => simp [Cd.cells] at hv) Try.underlying24 rfl (by kernel_rfl), hd ▸ hr⟩
/-- THE LAW of a region that ends in a store of one cell into block g. -/
theorem region_storeG {id : Nat} {a : Act} {W : World} (g : Nat) (r : List (Bool × Nat)) (s : Nat) (os : Oper)
    (hok : chainOkS .any ops s r (Array.replicate ops.size false) = true) (hlen : ops.size = r.length + 1) (hsel : Region.noSelect ops = true)
    (hs0 : ops[s]? = some os) (hgs : os.guard = none) (hds : os.dst = none)
    (h : chainA Try.prog ops (GS W g) W.heap.size zero.obj (atEndP fun a w => ∃ w', (execOp a.eval os).run Try.prog w = .ok .skip w' ∧ GS W g w' ∧ Q .normal a w') r a (BI W)) : (Code.region id ops true).wp Try.prog Q a W :=
  region_store r s os W.heap.size zero.obj (GS W g) (BI W) (by kernel_rfl) hok hlen hsel hs0 hgs hds (fun _ h => BI.gs g h) (BI.start W) h
theorem exec_indexS {k n b ad cp : Nat} (hk : k < n) {a : Act} {o : Oper} {p q : Operand} (ho : o.op = .indexAddr 65 p q) (hp : a.eval p = .slice (some ⟨b, ad, none⟩) n cp) (hq : a.eval q = .int .i64 k) (w : World) :
    (execOp a.eval o).run Try.prog w = .ok (.value (.pointer (some ⟨b, ad + k * 4, none⟩))) w := by
  have h0 : (0 : Int) ≤ (k : Int) := by omega
  have h1 : (k : Int) < (n : Int) := by omega
  unfold execOp
  rw [ho]
  simp only [hp, hq]
  go_simp
theorem exec_index3 {N : Nat} (hN : N < 3) {a : Act} {o : Oper} {p q : Operand} (ho : o.op = .indexAddr 55 p q) {g : Nat} (hp : a.eval p = .pointer (some ⟨g, 0, none⟩)) (hq : a.eval q = .int .i64 N) (w : World) :
    (execOp a.eval o).run Try.prog w = .ok (.value (.pointer (some ⟨g, N, none⟩))) w := by
  have h0 : (0 : Int) ≤ (N : Int) := by omega
  have h1 : (N : Int) < 3 := by omega
  unfold execOp
  rw [ho]
  simp only [hp, hq]
  go_simp
/-- THE LAW of a region with a new block of an array of type T, into which the last operation stores. -/
theorem region_vb {id : Nat} {a : Act} {W : World} (T : TypeId) (cs0 : Array Value) (r : List (Bool × Nat)) (i0 s d0 : Nat) (ts : List (Nat × Tmp × Tmp)) (oa os : Oper) (t : Tmp)
    (hi : ((Try.prog).info? T).map (·.size) = some cs0.size) (hal : ∀ (w : World), (Instr.alloc T true (.tuple #[])).run Try.prog w = .ok (ptr w.heap.size) (w.alloc (.cells cs0 T)))
    (hok : chainOk .any ops oa i0 s ts r (Array.replicate ops.size false) = true) (hlen : ops.size = r.length + ts.length + 1 + 1) (has : assigns ops ts = true) (hsel : Region.noSelect ops = true)
    (ha0 : ops[i0]? = some oa) (hga : oa.guard = none) (hd : oa.dst = some d0) (hoa : oa.op = .alloc T)
    (hs0 : ops[s]? = some os) (hgs : os.guard = none) (hds : os.dst = none) (hos : os.op = .store T (.tmp d0) (.tmp t)) (hne : t ≠ d0) (hsz : d0 < a.tmps.size)
    (h : chainA Try.prog ops (BI W) W.heap.size (.cells cs0 T) (atEnd W.heap.size (.cells cs0 T) fun b w g => b.tmps.size = a.tmps.size ∧ ∃ cs : Array Value, b.eval (.tmp t) = .agg cs ∧ cs.size = cs0.size ∧ cs.all (·.oneCell') = true ∧ ∀ w', Hid (VB w' g T cs) → Below W.heap.size W w' → ∃ a', runsTo ts (b.put (some d0) (ptr g)) a' ∧ Q .normal a' w') r a (BI W)) :
    (Code.region id ops true).wp Try.prog Q a W := by
  refine region_alloc r i0 s d0 ts oa os (.cells cs0 T) [] W.heap.size (BI W) (BI W) T (.tmp d0) (.tmp t) (by kernel_rfl) hok hlen has hsel ha0 hga hd ?_ hs0 hgs hds hos (clo_BI W _) (BI.start W) ?_
  · intro a w
    unfold execOp
    rw [hoa]
    simp [hal w, Result.andThen]
  · refine chainA_mono ?_ r a _ (fun _ h => h) h
    intro b I hIS hh w g hI0 hg hb
    obtain ⟨hsb, cs, hm, h1, h2, hk⟩ := hh w g hI0 hg hb
    have hI := hIS w hI0
    have hB : VB w g T cs0 := hb
    have hw : BI W (w.setCells g 0 cs.toList) := Below.grown hI (grown_setsV g _ _ _) (Below.size hI) (fun k hk => by injection hk with hk; omega)
    refine ⟨cs, ?_, ?_, by rw [h1]; exact hB.there, by rw [h1]; exact hi, h2, hw, hk _ (Lib.hid (VB.stored hB h1)) hw⟩
    · show (b.tmps.setIfInBounds d0 (ptr g)).getD d0 undef = ptr g
      simp [hsb, hsz]
    · rw [Act.eval_put (by intro d hd he; cases hd; cases he; exact hne rfl)]; exact hm
end
end Go.Proofs.Ytkmkochganknmaa.cards
