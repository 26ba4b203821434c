/- The region of a law that keeps what a function returns: a Deal. -/
import Derived.Test.YtngfdfgeoieebabRc
import Derived.Test.YtngfdfgeoieebabQt
import Derived.Test.YtngfdfgeoieebabQe
import Derived.Test.YtngfdfgeoieebabRw
namespace Go.Proofs.Ytngfdfgeoieebab.reg
open Go.RowKit
open cards deal
set_option linter.unusedVariables false

theorem grown_setD (w : World) (g i : Nat) (v : Value) : w.grownBy (w.setCell ⟨g, i, none⟩ v) (some g) :=
  ⟨rfl, rfl, rfl, by simp [World.setCell], fun k hk hne => Below.heap_setCell _ _ _ _ (fun e => hne (by rw [e]))⟩
theorem grown_setsD (g : Nat) : ∀ (vs : List Value) (o : Nat) (w : World), w.grownBy (w.setCells g o vs) (some g)
  | [], o, w => World.grownBy.refl w _
  | v :: r, o, w => World.grownBy.trans (grown_setD w g o v) (grown_setsD g r (o + 1) _)
abbrev zeroD : Dv := ⟨75, 0, 0, .slice none 0 0⟩
/-- A block of another type than cards is no row of cards of the call's own. -/
theorem own_apart {w : World} {B : Nat} {v : Value} {l : List Cd} (h : Own w B v l) {g : Nat} (hb : w.heap[g]? = some zeroD.obj) : ∀ q, v.ownBlock = some q → q ≠ g := by
  rintro q e rfl
  obtain ⟨_, ⟨rfl, _⟩ | ⟨g', cap, cur, rfl, _, hg, _⟩⟩ := h
  · cases e
  · have : q = g' := by injection e with e; exact e.symm
    subst this
    rw [hg] at hb
    injection hb with hb
    injection hb with _ h2 _
    exact absurd h2 (by decide)
theorem own_grown {w w1 : World} {B : Nat} {v : Value} {l : List Cd} {row : Option Nat} (h : Own w B v l) (hg : w.grownBy w1 row) (hne : ∀ q, v.ownBlock = some q → row ≠ some q) : Own w1 B v l :=
  World.ownsRow.kept h hg (by
    cases hv : v.ownBlock with
    | none => simp
    | some g => exact .inr (Ne.symm (hne g hv)))
section
variable {ops : Array Oper} {Q : Exit → Act → World → Prop}
/-- The result is a Deal. -/
theorem region_deal {id : Nat} {a : Act} {W : World} (r : List (Bool × Nat)) (i0 s d0 : Nat) (ts : List (Nat × Tmp × Tmp)) (oa os : Oper) (t : Tmp)
    (hok : chainOk .any ops oa i0 s ts r (Array.replicate ops.size false) = true) (hlen : ops.size = r.length + ts.length + 1 + 1) (has : assigns ops ts = true) (hsel : Region.noSelect ops = true)
    (ha0 : ops[i0]? = some oa) (hga : oa.guard = none) (hd : oa.dst = some d0) (hoa : oa.op = .alloc 75)
    (hs0 : ops[s]? = some os) (hgs : os.guard = none) (hds : os.dst = none) (hos : os.op = .store 75 (.tmp d0) (.tmp t)) (hne : t ≠ d0) (hsz : d0 < a.tmps.size)
    (h : chainA Try.prog ops (BI W) W.heap.size zeroD.obj (fun b I => ∃ (x y : Int) (v : Value), b.tmps.size = a.tmps.size ∧ v.oneCell' = true ∧ b.eval (.tmp t) = dval x y v ∧ ∀ w w' g, I w → W.heap.size ≤ g → w.heap[g]? = some zeroD.obj → w.grownBy w' (some g) → DBox w' g ⟨75, x, y, v⟩ → ∃ a', runsTo ts (b.put (some d0) (ptr g)) a' ∧ Q .normal a' w') r a (BI W)) :
    (Code.region id ops true).wp Try.prog Q a W := by
  refine region_alloc r i0 s d0 ts oa os zeroD.obj [] W.heap.size (BI W) (BI W) 75 (.tmp d0) (.tmp t) (by kernel_rfl) hok hlen has hsel ha0 hga hd ?_ hs0 hgs hds hos (clo_BI W _) (BI.start W) ?_
  · intro a w
    unfold execOp
    rw [hoa]
    kernel_rfl
  · refine chainA_mono ?_ r a _ (fun _ h => h) h
    intro b I hIS ⟨x, y, v, hsb, hv, hm, hk⟩ w g hI0 hg hb
    have hI := hIS w hI0
    have hB : DBox w g zeroD := hb
    have hw : BI W (w.setCells g 0 [.int .i64 x, .int .i64 y, v]) := Below.grown hI (grown_setsD g _ _ _) hI.size (fun k hk => by injection hk with hk; omega)
    refine ⟨#[.int .i64 x, .int .i64 y, v], ?_, ?_, ?_, by kernel_rfl, by (rw [Array.all_eq_true_iff_forall_mem]; intro u hu; simp at hu; rcases hu with rfl | rfl | rfl; rfl; rfl; exact hv), hw, hk w _ g hI0 hg hb (grown_setsD g _ _ _) (DBox.set_ hB x y v)⟩
    · show (b.tmps.setIfInBounds d0 (ptr g)).getD d0 undef = ptr g
      simp [Array.getElem?_setIfInBounds, hsb, hsz]
    · rw [Act.eval_put (by intro d hd he; cases hd; cases he; exact hne rfl)]; exact hm
    · intro j hj
      have hj : j < 3 := hj
      refine ⟨?_, hB.frozen _⟩
      rw [Nat.zero_add, cell_of_row w g _ _ _ _ hB]
      rcases (show j = 0 ∨ j = 1 ∨ j = 2 by omega) with rfl | rfl | rfl <;> rfl
end
end Go.Proofs.Ytngfdfgeoieebab.reg
