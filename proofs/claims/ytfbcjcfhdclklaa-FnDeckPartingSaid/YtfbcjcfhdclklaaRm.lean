/- The region of a law that keeps what a function returns: a Map, a card. -/
import Derived.Test.YtfbcjcfhdclklaaRc
import Derived.Test.YtfbcjcfhdclklaaMf
namespace Go.Proofs.Ytfbcjcfhdclklaa.reg
open Go.RowKit
open cards maps
set_option linter.unusedVariables false

section
variable {ops : Array Oper} {Q : Exit → Act → World → Prop}
/-- The result is a Map. -/
theorem region_map {id : Nat} {a : Act} {W : World} (r : List (Bool × Nat)) (i0 s d0 : Nat) (ts : List (Nat × Tmp × Tmp)) (oa os : Oper) (t : Tmp)
    (hok : chainOk .any ops oa i0 s ts r (Array.replicate ops.size false) = true) (hlen : ops.size = r.length + ts.length + 1 + 1) (has : assigns ops ts = true) (hsel : Region.noSelect ops = true)
    (ha0 : ops[i0]? = some oa) (hga : oa.guard = none) (hd : oa.dst = some d0) (hoa : oa.op = .alloc 86)
    (hs0 : ops[s]? = some os) (hgs : os.guard = none) (hds : os.dst = none) (hos : os.op = .store 86 (.tmp d0) (.tmp t)) (hne : t ≠ d0) (hsz : d0 < a.tmps.size)
    (h : chainA Try.prog ops (BI W) W.heap.size (Mv.obj ⟨86, zeroM⟩) (atEnd W.heap.size (Mv.obj ⟨86, zeroM⟩) fun b w g => b.tmps.size = a.tmps.size ∧ ∃ m : Mp, b.eval (.tmp t) = m.val ∧ ∀ w', Hid (MBox w' g ⟨86, m⟩) → Below W.heap.size W w' → ∃ a', runsTo ts (b.put (some d0) (ptr g)) a' ∧ Q .normal a' w') r a (BI W)) :
    (Code.region id ops true).wp Try.prog Q a W := by
  refine region_alloc r i0 s d0 ts oa os (Mv.obj ⟨86, zeroM⟩) [] W.heap.size (BI W) (BI W) 86 (.tmp d0) (.tmp t) (by kernel_rfl) hok hlen has hsel ha0 hga hd ?_ hs0 hgs hds hos (clo_BI W _) (BI.start W) ?_
  · intro a w
    unfold execOp
    rw [hoa]
    kernel_rfl
  · refine chainA_mono ?_ r a _ (fun _ h => h) h
    intro b I hIS hh w g hI0 hg hb
    obtain ⟨hsb, m, hm, hk⟩ := hh w g hI0 hg hb
    have hI := hIS w hI0
    have hB : MBox w g ⟨86, zeroM⟩ := hb
    have hw : BI W (w.setCells g 0 m.vals.toList) := Below.grown hI (grown_sets g _ _ _) hI.size (fun k hk => by injection hk with hk; omega)
    refine ⟨m.vals, ?_, ?_, hB.there, by kernel_rfl, by simp [Value.oneCell'], hw, hk _ (Lib.hid (MBox.stored hB m)) hw⟩
    · show (b.tmps.setIfInBounds d0 (ptr g)).getD d0 undef = ptr g
      simp [Array.getElem?_setIfInBounds, hsb, hsz]
    · rw [Act.eval_put (by intro d hd he; cases hd; cases he; exact hne rfl)]; exact hm
/-- The result is a card. -/
theorem region_card {id : Nat} {a : Act} {W : World} (r : List (Bool × Nat)) (i0 s d0 : Nat) (ts : List (Nat × Tmp × Tmp)) (oa os : Oper) (t : Tmp)
    (hok : chainOk .any ops oa i0 s ts r (Array.replicate ops.size false) = true) (hlen : ops.size = r.length + ts.length + 1 + 1) (has : assigns ops ts = true) (hsel : Region.noSelect ops = true)
    (ha0 : ops[i0]? = some oa) (hga : oa.guard = none) (hd : oa.dst = some d0) (hoa : oa.op = .alloc 48)
    (hs0 : ops[s]? = some os) (hgs : os.guard = none) (hds : os.dst = none) (hos : os.op = .store 48 (.tmp d0) (.tmp t)) (hne : t ≠ d0) (hsz : d0 < a.tmps.size)
    (h : chainA Try.prog ops (BI W) W.heap.size zero.obj (atEnd W.heap.size zero.obj fun b w g => b.tmps.size = a.tmps.size ∧ ∃ m : Cd, b.eval (.tmp t) = m.val ∧ ∀ w', Hid (Box w' g m) → Below W.heap.size W w' → ∃ a', runsTo ts (b.put (some d0) (ptr g)) a' ∧ Q .normal a' w') r a (BI W)) :
    (Code.region id ops true).wp Try.prog Q a W := by
  refine region_alloc r i0 s d0 ts oa os zero.obj [] W.heap.size (BI W) (BI W) 48 (.tmp d0) (.tmp t) (by kernel_rfl) hok hlen has hsel ha0 hga hd ?_ hs0 hgs hds hos (clo_BI W _) (BI.start W) ?_
  · intro a w
    unfold execOp
    rw [hoa]
    kernel_rfl
  · refine chainA_mono ?_ r a _ (fun _ h => h) h
    intro b I hIS hh w g hI0 hg hb
    obtain ⟨hsb, m, hm, hk⟩ := hh w g hI0 hg hb
    have hI := hIS w hI0
    have hB : Box w g zero := hb
    have hw : BI W (w.setCells g 0 [.int .i64 m.a, .int .i64 m.b, .int .i64 m.c, .int .i64 m.d]) := Below.grown hI (grown_sets g _ _ _) hI.size (fun k hk => by injection hk with hk; omega)
    refine ⟨#[.int .i64 m.a, .int .i64 m.b, .int .i64 m.c, .int .i64 m.d], ?_, ?_, ?_, by kernel_rfl, by simp [Value.oneCell'], hw, hk _ (Lib.hid (Box.set_ hB m)) hw⟩
    · show (b.tmps.setIfInBounds d0 (ptr g)).getD d0 undef = ptr g
      simp [Array.getElem?_setIfInBounds, hsb, hsz]
    · rw [Act.eval_put (by intro d hd he; cases hd; cases he; exact hne rfl)]; exact hm
    · intro j hj
      have hj : j < 4 := hj
      refine ⟨?_, hB.frozen _⟩
      rw [Nat.zero_add, cell_of_row w g _ _ _ _ hB]
      rcases (show j = 0 ∨ j = 1 ∨ j = 2 ∨ j = 3 by omega) with rfl | rfl | rfl | rfl <;> rfl
end
end Go.Proofs.Ytfbcjcfhdclklaa.reg
