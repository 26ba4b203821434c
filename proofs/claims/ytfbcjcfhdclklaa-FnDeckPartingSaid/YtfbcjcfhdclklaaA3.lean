/- A row of numbers of the call's own, sorted by the library. -/
import Derived.Test.YtfbcjcfhdclklaaSz
import Derived.Test.YtfbcjcfhdclklaaA2
namespace Go.Proofs.Ytfbcjcfhdclklaa.parting
open Go.RowKit
open cards
set_option linter.unusedVariables false

theorem ownI_holds {w : World} {B g cap : Nat} {l : List Int} (h : OwnI w B (.slice (some ⟨g, 0, none⟩) l.length cap) l) : Go.Sort.Holds (Value.int .i64) w g 0 l.toArray := by
  intro j hj
  have hj' : j < l.length := by simpa using hj
  have h' : w.ownsRow B 3 1 (.slice (some ⟨g, 0, none⟩) l.length cap) l.length (ints l) := h
  refine ⟨?_, World.ownsRow.frozenAt h' (0 + j)⟩
  rw [Nat.zero_add, World.ownsRow.cellAt h' j (by omega)]
  simp [ints, hj']
theorem ownI_put {w : World} {B g cap : Nat} {l l' : List Int} (hl : l'.length = l.length) (h : OwnI w B (.slice (some ⟨g, 0, none⟩) l.length cap) l) (q : Nat) (os : Array Obj) :
    OwnI (Go.Sort.grow (Go.Sort.putRow (Value.int .i64) (Go.Sort.ahead w q) g 0 l'.toArray) os) B (.slice (some ⟨g, 0, none⟩) l'.length cap) l' ∧ w.grownBy (Go.Sort.grow (Go.Sort.putRow (Value.int .i64) (Go.Sort.ahead w q) g 0 l'.toArray) os) (some g) := by
  have hh : ∀ k, (Go.Sort.putRow (Value.int .i64) (Go.Sort.ahead w q) g 0 l'.toArray).heap[k]? = if g = k then (w.heap[k]?).map (Go.Sort.onCells (Go.Sort.putCells (Value.int .i64) 0 l'.toArray)) else w.heap[k]? := fun k => by
    unfold Go.Sort.putRow Go.Sort.mapBlock Go.Sort.ahead
    simp only [Array.getElem?_modify]
  have hsz : (Go.Sort.putRow (Value.int .i64) (Go.Sort.ahead w q) g 0 l'.toArray).heap.size = w.heap.size := by
    unfold Go.Sort.putRow Go.Sort.mapBlock Go.Sort.ahead
    simp
  obtain ⟨h0, ⟨e, _⟩ | ⟨g', cap', cur, e, hB, hg, hc, hm, hs, ht⟩⟩ := h
  · exact absurd e (by simp)
  · injection e with e1 e2 e3
    injection e1 with e1
    injection e1 with e1
    subst e1; subst e3
    have hlt : g < w.heap.size := (Array.getElem?_eq_some_iff.1 hg).1
    refine ⟨⟨by rw [ints_len]; omega, .inr ⟨g, cap, Go.Sort.putCells (Value.int .i64) 0 l'.toArray cur, rfl, hB, ?_, by omega, hm, ?_, ?_⟩⟩, ⟨rfl, rfl, rfl, ?_, fun k hk hne => ?_⟩⟩
    · show (_ ++ os)[g]? = _
      rw [Array.getElem?_append_left (by rw [hsz]; exact hlt), hh, if_pos rfl, hg]
      rfl
    · unfold Go.Sort.putCells; rw [Array.size_mapIdx]; exact hs
    · apply List.ext_getElem?
      intro t
      by_cases htn : t < l'.length
      · have htc : t < cur.size := by rw [hs]; omega
        rw [List.getElem?_take_of_lt (by omega), Array.getElem?_toList]
        unfold Go.Sort.putCells
        rw [Array.getElem?_mapIdx, Array.getElem?_eq_getElem htc]
        simp only [Option.map_some]
        rw [if_pos ⟨Nat.zero_le _, by simpa using htn⟩, Nat.sub_zero]
        simp [ints, htn]
      · rw [List.getElem?_eq_none (by rw [List.length_take]; omega), List.getElem?_eq_none (by rw [ints_len]; omega)]
    · show w.heap.size ≤ (_ ++ os).size
      rw [Array.size_append, hsz]; omega
    · show (_ ++ os)[k]? = _
      rw [Array.getElem?_append_left (by rw [hsz]; exact hk), hh, if_neg (fun e => hne (by rw [e]))]
theorem sort_ints (l : List Int) (g cap B : Nat) (w : World) (hl : l.length ≤ 1000) (hO : OwnI w B (.slice (some ⟨g, 0, none⟩) l.length cap) l) :
    Calls Try.prog 81 #[.slice (some ⟨g, 0, none⟩) l.length cap] w fun e w' => e = .returned (.tuple #[]) ∧ ∃ l' : List Int, l'.Perm l ∧ l'.Pairwise (fun x y => x ≤ y) ∧ OwnI w' B (.slice (some ⟨g, 0, none⟩) l'.length cap) l' ∧ w.grownBy w' (some g) := by
  have hg : g < w.heap.size := (World.ownsRow.lt hO g rfl).2
  have hcon := Go.Proofs.Try.slices_Sort_int g 0 cap l w (ownI_holds hO) hg (by omega)
  change Calls Try.prog 81 _ _ _ at hcon
  refine hcon.mono ?_
  rintro e w' ⟨rfl, q, os, rfl⟩
  have hlen : (l.mergeSort fun x y => decide (x ≤ y)).length = l.length := List.length_mergeSort l
  have ho := ownI_put (q := q) (os := os) hlen hO
  have hsrt := List.pairwise_mergeSort (le := fun x y : Int => decide (x ≤ y)) (by intro a b c; simp; omega) (by intro a b; simp; omega) l
  exact ⟨rfl, _, List.mergeSort_perm l _, hsrt.imp (by intro a b; simp), ho.1, ho.2⟩
end Go.Proofs.Ytfbcjcfhdclklaa.parting
