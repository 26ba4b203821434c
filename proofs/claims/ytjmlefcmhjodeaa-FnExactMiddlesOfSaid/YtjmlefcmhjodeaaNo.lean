/- The numbers of the cards of which a function value says yes. -/
import Derived.Test.YtjmlefcmhjodeaaAn
import Derived.Test.YtjmlefcmhjodeaaIs
import Derived.Test.YtjmlefcmhjodeaaNm
namespace Go.Proofs.Ytjmlefcmhjodeaa.cards
open Go.RowKit
set_option linter.unusedVariables false

theorem OwnI.base {w : World} {B B' : Nat} {v : Value} {l : List Int} (h : OwnI w B v l) (hB : B' ≤ B) : OwnI w B' v l := by
  obtain ⟨hl, h0 | ⟨g, cap, cur, e, hb, r⟩⟩ := h
  · exact ⟨hl, .inl h0⟩
  · exact ⟨hl, .inr ⟨g, cap, cur, e, Nat.le_trans hB hb, r⟩⟩
/-- A captured slice of cards: a block of one cell. -/
def BoxH (w : World) (g : Nat) (v : Value) : Prop := w.heap[g]? = some (.cells #[v] 26)
theorem BoxH.lt {w : World} {g : Nat} {v : Value} (h : BoxH w g v) : g < w.heap.size := (Array.getElem?_eq_some_iff.1 h).1
theorem BoxH.new (w : World) (v : Value) : BoxH (w.alloc (.cells #[v] 26)) w.heap.size v := heap_alloc_new w _
theorem BoxH.below {w w1 : World} {g : Nat} {v : Value} (h : BoxH w g v) (b : Below w.heap.size w w1) : BoxH w1 g v := (b.block g h.lt).trans h
theorem BoxH.alloc {w : World} {g : Nat} {v : Value} (h : BoxH w g v) (o : Obj) : BoxH (w.alloc o) g v := (Below.heap_alloc w o g h.lt).trans h
theorem BoxH.drew {w : World} {g : Nat} {v : Value} (h : BoxH w g v) : BoxH w.drew g v := h
theorem BoxH.drewN {w : World} {g : Nat} {v : Value} (h : BoxH w g v) (n : Nat) : BoxH (w.drewN n) g v := h
theorem BoxH.cell {w : World} {g : Nat} {v : Value} (h : BoxH w g v) : w.cell? ⟨g, 0, none⟩ = some v := (cell_of_row w g 0 _ _ _ h).trans rfl
end Go.Proofs.Ytjmlefcmhjodeaa.cards
