/- Fractions that are compared. -/
import Derived.Test.YtjanphcfflahkaaG2
import Derived.Test.YtjanphcfflahkaaE2
namespace Go.Proofs.Ytjanphcfflahkaa.chance
open Go.RowKit
open cards reg
/-- Block g holds a fraction. -/
def FBox (w : World) (g : Nat) (p : Int × Int) : Prop := VB w g 31 (fv p)
theorem FBox.lt {w : World} {g : Nat} {x : Int × Int} (h : FBox w g x) : g < w.heap.size := VB.lt h
theorem FBox.newAt {w : World} {g : Nat} {x : Int × Int} {o : Obj} (h : w.heap.size = g) (ho : o = .cells (fv x) 31) : FBox (w.alloc o) g x := VB.newAt h ho
theorem FBox.alloc {w : World} {g : Nat} {x : Int × Int} (h : FBox w g x) (o : Obj) : FBox (w.alloc o) g x := VB.alloc h o
theorem FBox.drew {w : World} {g : Nat} {x : Int × Int} (h : FBox w g x) : FBox w.drew g x := h
theorem FBox.drewN {w : World} {g : Nat} {x : Int × Int} (h : FBox w g x) (n : Nat) : FBox (w.drewN n) g x := h
theorem FBox.below {w w1 : World} {g : Nat} {x : Int × Int} (h : FBox w g x) (b : Below w.heap.size w w1) : FBox w1 g x := VB.below h b
theorem FBox.cell {w : World} {g : Nat} {x : Int × Int} (h : FBox w g x) : w.cell? ⟨g, 0, none⟩ = some (.int .i64 x.1) ∧ w.cell? ⟨g, 1, none⟩ = some (.int .i64 x.2) := ⟨VB.at_ h rfl, VB.at_ h rfl⟩
theorem FBox.frozen {w : World} {g : Nat} {x : Int × Int} (h : FBox w g x) : ∀ i, w.frozen? ⟨g, i, none⟩ = false := VB.frozen h
theorem eq_fv (p : Int × Int) (w : World) : Calls Try.prog 20 #[.agg (fv p), .agg (fv p)] w fun e w' => e = .returned (.bool true) ∧ Below w.heap.size w w' := by
  have h := eq_A2 ⟨p.1, p.2⟩ ⟨p.1, p.2⟩ w
  rw [same_A2_self] at h
  exact h
end Go.Proofs.Ytjanphcfflahkaa.chance
