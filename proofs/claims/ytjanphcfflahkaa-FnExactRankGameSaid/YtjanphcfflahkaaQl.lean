/- Laying cards: the program's lay. -/
import Derived.Test.YtjanphcfflahkaaQi
import Derived.Test.YtjanphcfflahkaaGw
import Derived.Deep.RegionHeld3
import Derived.Deep.DeepCutAuto
namespace Go.Proofs.Ytjanphcfflahkaa.deal
open Go.RowKit
open cards
set_option linter.unusedVariables false

theorem Own.nil0 {w : World} {B n c : Nat} {p : Option Addr} {l : List Cd} (h : Own w B (.slice p n c) l) : p = none → c = 0 := fun e => by
  subst e
  obtain ⟨_, ⟨e, _⟩ | ⟨g, cap, cur, e, _⟩⟩ := h
  · injection e
  · injection e with e1 e2 e3; cases e1
/-- The cards from a on, up to b, lie at the slice's address. -/
theorem Rd.part {w : World} {g : Nat} {l : List Cd} (h : Rd w (some ⟨g, 0, none⟩) (flat l)) (a b : Nat) (hab : a ≤ b) : Rd w (if b = a then some ⟨g, 0, none⟩ else some ⟨g, a * 4, none⟩) (flat ((l.drop a).take (b - a))) := by
  split
  · rename_i e
    subst e
    rw [Nat.sub_self, List.take_zero]
    intro hp; simp [flat] at hp
  · have := (h.drop a).take (b - a)
    rwa [Nat.zero_add] at this

theorem parts_lay {w : World} {p q : Option Addr} {n m c c2 : Nat} {l l2 : List Cd} (hr : Rd w p (flat l)) (hr2 : Rd w q (flat l2)) (hn : l.length = n) (hm : l2.length = m) (h0 : p = none → c = 0) (h2 : q = none → c2 = 0) :
    ∀ j l', [l, l2][j]? = some l' → ∃ q' c', (w.alloc (.cells #[.slice p n c, .slice q m c2] 29)).drew.cell? ⟨w.heap.size, j, none⟩ = some (.slice q' l'.length c') ∧ Rd (w.alloc (.cells #[.slice p n c, .slice q m c2] 29)).drew q' (flat l') ∧ (q' = none → c' = 0) := by
  intro j l' h
  have hj : j < 2 := (List.getElem?_eq_some_iff.1 h).1
  have hc : ∀ j, (w.alloc (.cells #[.slice p n c, .slice q m c2] 29)).drew.cell? ⟨w.heap.size, j, none⟩ = (#[Value.slice p n c, .slice q m c2] : Array Value)[j]? := fun j => cell_of_row _ _ j _ _ _ (heap_alloc_new w _)
  rcases (show j = 0 ∨ j = 1 by omega) with rfl | rfl
  · simp at h; subst h
    exact ⟨_, _, by rw [hc, hn]; rfl, (hr.alloc _).drew, h0⟩
  · simp at h; subst h
    exact ⟨_, _, by rw [hc, hm]; rfl, (hr2.alloc _).drew, h2⟩

end Go.Proofs.Ytjanphcfflahkaa.deal
