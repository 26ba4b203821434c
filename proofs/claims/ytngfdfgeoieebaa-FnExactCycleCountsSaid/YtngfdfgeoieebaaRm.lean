/- The region of a law that keeps what a function returns: a Map, a card. -/
import Derived.Test.YtngfdfgeoieebaaRg
import Derived.Test.YtngfdfgeoieebaaMf
namespace Go.Proofs.Ytngfdfgeoieebaa.reg
open Go.RowKit
open cards maps
set_option linter.unusedVariables false

def BI (W : World) (w' : World) : Prop := Below W.heap.size W w'
theorem clo_BI (W : World) (obj : Obj) : Clo W.heap.size obj (BI W) (BI W) := ⟨fun _ h => h, fun _ h => h.size, fun _ h => Below.alloc h h.size _⟩
theorem BI.next {W w w' : World} (h : BI W w) (b : Below w.heap.size w w') : BI W w' := Below.trans h (b.mono h.size)
theorem BI.start (W : World) : BI W W.drew := (Below.refl _ _).drew
section
variable {ops : Array Oper} {Q : Exit → Act → World → Prop} {n0 : Nat} {obj : Obj} {fin : Act → (World → Prop) → Prop} {S : World → Prop}
theorem chain_call (d : Tmp) {i : Nat} {r : List (Bool × Nat)} {a : Act} {W : World} {f : FuncId} {args : Array Value} {v : Value} {o : Oper} (ho : ops[i]? = some o) (hd : o.dst = some d) (hg : o.guard = none)
    (he : ∀ w, (execOp a.eval o).run Try.prog w = .ok (.enter f args) w) (h : ∀ w, BI W w → Calls Try.prog f args w (fun e w' => e = .returned v ∧ Below w.heap.size w w'))
    (hr : chainA Try.prog ops (BI W) W.heap.size obj fin r (a.put (some d) v) (BI W)) : chainA Try.prog ops (BI W) W.heap.size obj fin ((false, i) :: r) a (BI W) :=
  ⟨o, ho, hg, fun w hI => by
    rw [he]
    exact (h w hI).mono fun e w' ⟨h1, h2⟩ => ⟨v, h1, h2, BI W, clo_BI W obj, BI.next hI h2, hd ▸ hr⟩⟩
/-- A call whose answer is not told by its arguments alone. -/
theorem chain_callE (d : Tmp) {i : Nat} {r : List (Bool × Nat)} {a : Act} {I : World → Prop} {f : FuncId} {args : Array Value} {o : Oper} (ho : ops[i]? = some o) (hd : o.dst = some d) (hg : o.guard = none)
    (he : ∀ w, (execOp a.eval o).run Try.prog w = .ok (.enter f args) w)
    (h : ∀ w, I w → Calls Try.prog f args w (fun e w' => ∃ v, e = .returned v ∧ Below w.heap.size w w' ∧ ∃ I', Clo n0 obj S I' ∧ I' w' ∧ chainA Try.prog ops S n0 obj fin r (a.put (some d) v) I')) : chainA Try.prog ops S n0 obj fin ((false, i) :: r) a I :=
  ⟨o, ho, hg, fun w hI => by
    rw [he]
    exact (h w hI).mono fun e w' ⟨v, h1, h2, h3⟩ => ⟨v, h1, h2, hd ▸ h3⟩⟩
theorem chain_pure (d : Tmp) {i : Nat} {r : List (Bool × Nat)} {a : Act} {I : World → Prop} {v : Value} {o : Oper} (ho : ops[i]? = some o) (hd : o.dst = some d) (hg : o.guard = none)
    (he : ∀ w, (execOp a.eval o).run Try.prog w = .ok (.value v) w)
    (hr : chainA Try.prog ops S n0 obj fin r (a.put (some d) v) I) : chainA Try.prog ops S n0 obj fin ((true, i) :: r) a I :=
  ⟨o, v, ho, .inl ⟨wanted_of hg, fun w _ => he w⟩, hd ▸ hr⟩
theorem chain_load (d : Tmp) {i : Nat} {r : List (Bool × Nat)} {a : Act} {I : World → Prop} {o : Oper} (ho : ops[i]? = some o) (hd : o.dst = some d) (hg : o.guard = none)
    (T : TypeId) (x : Operand) (hx : o.op = .load T x) {g : Nat} (hp : a.eval x = .pointer (some ⟨g, 0, none⟩)) {t : TypeId} (cs : Array Value) {D : TypeDesc} (hS : ∀ w, S w → w.heap[g]? = some (.cells cs t))
    (hu : Try.prog.underlying T = some D) (hD : D.isRow = true) (hi : (Try.prog.info? T).map (·.size) = some cs.size)
    (hr : chainA Try.prog ops S n0 obj fin r (a.put (some d) (.agg cs)) I) : chainA Try.prog ops S n0 obj fin ((true, i) :: r) a I :=
  ⟨o, .agg cs, ho, yieldsIf_load_mid (wanted_of hg) T x hx g 0 hp cs.toList D (fun w hw j v hv => by rw [cell_of_row w g _ _ _ _ (hS w hw), Nat.zero_add]; simpa using hv) hu hD (by simpa using hi), hd ▸ hr⟩
end
section
variable {ops : Array Oper} {Q : Exit → Act → World → Prop}
/-- A region without a new block: what is known is that nothing has turned. -/
theorem region_BI {id : Nat} {a : Act} {W : World} (r : List (Bool × Nat))
    (hok : chainOkP .any ops r (Array.replicate ops.size false) = true) (hlen : ops.size = r.length) (hsel : Region.noSelect ops = true)
    (h : chainA Try.prog ops (BI W) W.heap.size zero.obj (atEndP (Q .normal)) r a (BI W)) : (Code.region id ops true).wp Try.prog Q a W :=
  region_plain r W.heap.size zero.obj (BI W) (BI W) (by kernel_rfl) hok hlen hsel (fun _ h => h) (BI.start W) h
/-- The result is a Map. -/
theorem region_map {id : Nat} {a : Act} {W : World} (r : List (Bool × Nat)) (i0 s d0 : Nat) (ts : List (Nat × Tmp × Tmp)) (oa os : Oper) (t : Tmp)
    (hok : chainOk .any ops oa i0 s ts r (Array.replicate ops.size false) = true) (hlen : ops.size = r.length + ts.length + 1 + 1) (has : assigns ops ts = true) (hsel : Region.noSelect ops = true)
    (ha0 : ops[i0]? = some oa) (hga : oa.guard = none) (hd : oa.dst = some d0) (hoa : oa.op = .alloc 28)
    (hs0 : ops[s]? = some os) (hgs : os.guard = none) (hds : os.dst = none) (hos : os.op = .store 28 (.tmp d0) (.tmp t)) (hne : t ≠ d0) (hsz : d0 < a.tmps.size)
    (h : chainA Try.prog ops (BI W) W.heap.size (Mv.obj ⟨28, zeroM⟩) (atEnd W.heap.size (Mv.obj ⟨28, zeroM⟩) fun b w g => b.tmps.size = a.tmps.size ∧ ∃ m : Mp, b.eval (.tmp t) = m.val ∧ ∀ w', Hid (MBox w' g ⟨28, m⟩) → Below W.heap.size W w' → ∃ a', runsTo ts (b.put (some d0) (ptr g)) a' ∧ Q .normal a' w') r a (BI W)) :
    (Code.region id ops true).wp Try.prog Q a W := by
  refine region_alloc r i0 s d0 ts oa os (Mv.obj ⟨28, zeroM⟩) [] W.heap.size (BI W) (BI W) 28 (.tmp d0) (.tmp t) (by kernel_rfl) hok hlen has hsel ha0 hga hd ?_ hs0 hgs hds hos (clo_BI W _) (BI.start W) ?_
  · intro a w
    unfold execOp
    rw [hoa]
    kernel_rfl
  · refine chainA_mono ?_ r a _ (fun _ h => h) h
    intro b I hIS hh w g hI0 hg hb
    obtain ⟨hsb, m, hm, hk⟩ := hh w g hI0 hg hb
    have hI := hIS w hI0
    have hB : MBox w g ⟨28, zeroM⟩ := hb
    have hw : BI W (w.setCells g 0 m.vals.toList) := Below.grown hI (grown_sets g _ _ _) hI.size (fun k hk => by injection hk with hk; omega)
    refine ⟨m.vals, ?_, ?_, hB.there, by kernel_rfl, by simp [Value.oneCell'], hw, hk _ (Lib.hid (MBox.stored hB m)) hw⟩
    · show (b.tmps.setIfInBounds d0 (ptr g)).getD d0 undef = ptr g
      simp [Array.getElem?_setIfInBounds, hsb, hsz]
    · rw [Act.eval_put (by intro d hd he; cases hd; cases he; exact hne rfl)]; exact hm
/-- The result is a card. -/
theorem region_card {id : Nat} {a : Act} {W : World} (r : List (Bool × Nat)) (i0 s d0 : Nat) (ts : List (Nat × Tmp × Tmp)) (oa os : Oper) (t : Tmp)
    (hok : chainOk .any ops oa i0 s ts r (Array.replicate ops.size false) = true) (hlen : ops.size = r.length + ts.length + 1 + 1) (has : assigns ops ts = true) (hsel : Region.noSelect ops = true)
    (ha0 : ops[i0]? = some oa) (hga : oa.guard = none) (hd : oa.dst = some d0) (hoa : oa.op = .alloc 22)
    (hs0 : ops[s]? = some os) (hgs : os.guard = none) (hds : os.dst = none) (hos : os.op = .store 22 (.tmp d0) (.tmp t)) (hne : t ≠ d0) (hsz : d0 < a.tmps.size)
    (h : chainA Try.prog ops (BI W) W.heap.size zero.obj (atEnd W.heap.size zero.obj fun b w g => b.tmps.size = a.tmps.size ∧ ∃ m : Cd, b.eval (.tmp t) = m.val ∧ ∀ w', Hid (Box w' g m) → Below W.heap.size W w' → ∃ a', runsTo ts (b.put (some d0) (ptr g)) a' ∧ Q .normal a' w') r a (BI W)) :
    (Code.region id ops true).wp Try.prog Q a W := by
  refine region_alloc r i0 s d0 ts oa os zero.obj [] W.heap.size (BI W) (BI W) 22 (.tmp d0) (.tmp t) (by kernel_rfl) hok hlen has hsel ha0 hga hd ?_ hs0 hgs hds hos (clo_BI W _) (BI.start W) ?_
  · intro a w
    unfold execOp
    rw [hoa]
    kernel_rfl
  · refine chainA_mono ?_ r a _ (fun _ h => h) h
    intro b I hIS hh w g hI0 hg hb
    obtain ⟨hsb, m, hm, hk⟩ := hh w g hI0 hg hb
    have hI := hIS w hI0
    have hB : Box w g zero := hb
    have hw : BI W (w.setCells g 0 [.int .i64 m.a, .int .i64 m.b, .int .i64 m.c, .int .i64 m.d]) := Below.grown hI (grown_sets g _ _ _) hI.size (fun k hk => by injection hk with hk; omega)
    refine ⟨#[.int .i64 m.a, .int .i64 m.b, .int .i64 m.c, .int .i64 m.d], ?_, ?_, ?_, by kernel_rfl, by simp [Value.oneCell'], hw, hk _ (Lib.hid (Box.set_ hB m)) hw⟩
    · show (b.tmps.setIfInBounds d0 (ptr g)).getD d0 undef = ptr g
      simp [Array.getElem?_setIfInBounds, hsb, hsz]
    · rw [Act.eval_put (by intro d hd he; cases hd; cases he; exact hne rfl)]; exact hm
    · intro j hj
      have hj : j < 4 := hj
      refine ⟨?_, hB.frozen _⟩
      rw [Nat.zero_add, cell_of_row w g _ _ _ _ hB]
      rcases (show j = 0 ∨ j = 1 ∨ j = 2 ∨ j = 3 by omega) with rfl | rfl | rfl | rfl <;> rfl
end
end Go.Proofs.Ytngfdfgeoieebaa.reg
