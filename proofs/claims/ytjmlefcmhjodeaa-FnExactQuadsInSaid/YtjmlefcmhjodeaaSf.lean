/- Cards in a row of the call's own, sorted: the words of the library's contract on sorting, led to mine. -/
import Derived.Test.YtjmlefcmhjodeaaPm
import Derived.Test.YtjmlefcmhjodeaaCp
import Derived.Test.YtjmlefcmhjodeaaRx
import Derived.Shelf.SlSortCmp.WholeK
import Derived.BigQuiet
import Derived.Deep.QuietTactic
import Derived.Deep.DeepCutAuto
namespace Go.Proofs.Ytjmlefcmhjodeaa.cards
open Go.RowKit
set_option linter.unusedVariables false

theorem cmpC_lt (x y : Cd) : cmpC x y < 0 ↔ x.a < y.a ∨ (x.a = y.a ∧ (x.b < y.b ∨ (x.b = y.b ∧ (x.c < y.c ∨ (x.c = y.c ∧ x.d < y.d))))) := by
  unfold cmpC cmpI
  repeat' split
  all_goals first | omega | (simp only [ne_eq, not_true_eq_false, not_false_eq_true] at *; omega)
theorem ltC (x y : Cd) : Go.Proofs.ltOf cmpC x y = decide (cmpC x y < 0) := rfl
theorem swoC : Go.Sort.SWO (Go.Proofs.ltOf cmpC) where
  irrefl x := by rw [ltC, decide_eq_false_iff_not, cmpC_lt]; omega
  trans x y z h1 h2 := by rw [ltC, decide_eq_true_iff, cmpC_lt] at *; omega
  ntrans x y z h1 h2 := by rw [ltC, decide_eq_false_iff_not, cmpC_lt] at *; omega
instance : Inhabited Cd := ⟨zero⟩

set_option maxRecDepth 100000 in
set_option maxHeartbeats 4000000 in
theorem compare_grow (x y : Cd) (w : World) :
    Calls Try.prog 95 #[x.val, y.val] w fun e w' => e = .returned (.int .i64 (cmpC x y)) ∧ ∃ q os, w' = Go.Sort.grow (w.drewN q) os := by
  have HK0 : Hid (Box ((w.alloc x.obj).alloc y.obj) w.heap.size x) := Lib.hid ((Box.newAt rfl rfl).alloc _)
  have HK1 : Hid (Box ((w.alloc x.obj).alloc y.obj) (w.heap.size + 1) y) := Lib.hid (Box.newAt (by simp) rfl)
  go_enter Try.func95, Try.ntmps95
  go_upto_region 1 with fail
  go_quiet ((go_at_call 77; exact Calls.quiet_of_same ((slices_cmp x y _ _ _ (HK0.out.drewN _) (HK1.out.drewN _)).mono fun _ _ h => ⟨h.1, h.2.symm⟩)))
  go_wp2_with fail
  go_ret
  exact ⟨rfl, _, _, by rw [Go.Sort.alloc_eq_grow, Go.Sort.alloc_eq_grow, Go.Sort.grow_grow]; rfl⟩

theorem flat_get : ∀ (l : List Cd) (t : Nat), t < l.length * 4 → (flat l)[t]? = some ((l.toArray[t / 4]!).cells[t % 4]!)
  | [], t, h => by simp at h
  | x :: r, t, h => by
    have e : flat (x :: r) = x.cells ++ flat r := rfl
    rcases Nat.lt_or_ge t 4 with h4 | h4
    · rw [e, List.getElem?_append_left (by simp [Cd.cells]; omega)]
      rcases (show t = 0 ∨ t = 1 ∨ t = 2 ∨ t = 3 by omega) with rfl | rfl | rfl | rfl <;> rfl
    · rw [e, List.getElem?_append_right (by simp [Cd.cells]; omega)]
      have ih := flat_get r (t - 4) (by simp at h; omega)
      have hl : x.cells.length = 4 := rfl
      rw [hl, ih]
      obtain ⟨k, hk⟩ : ∃ k, t / 4 = k + 1 := ⟨t / 4 - 1, by omega⟩
      have h1 : (t - 4) / 4 = k := by omega
      have h2 : (t - 4) % 4 = t % 4 := by omega
      rw [hk, h1, h2]
      congr 2
      simp [getElem!_def]
theorem flatK_flat (l : List Cd) : (Go.Sort.flatK Cd.cells 4 l.toArray).toList = flat l := by
  apply List.ext_getElem?
  intro t
  by_cases h : t < l.length * 4
  · rw [flat_get l t h]
    have hs : t < (Go.Sort.flatK Cd.cells 4 l.toArray).size := by rw [Go.Sort.size_flatK]; simpa using h
    have := Go.Sort.get_flatK Cd.cells 4 l.toArray t (by simpa using h)
    rw [getElem!_pos _ t hs] at this
    rw [Array.getElem?_toList, Array.getElem?_eq_getElem hs, this]
  · rw [List.getElem?_eq_none (by rw [Array.length_toList, Go.Sort.size_flatK]; simp; omega), List.getElem?_eq_none (by rw [flat_len]; omega)]
theorem own_holds {w : World} {B g n cap : Nat} {l : List Cd} (hn : l.length = n) (h : Own w B (.slice (some ⟨g, 0, none⟩) n cap) l) : Go.Sort.HoldsK Cd.cells 4 w g 0 l.toArray := by
  subst hn
  intro j hj
  have hj' : j < l.length * 4 := by simpa using hj
  have h' : w.ownsRow B 25 4 (.slice (some ⟨g, 0, none⟩) l.length cap) l.length (flat l) := h
  refine ⟨?_, World.ownsRow.frozenAt h' (0 + j)⟩
  rw [Nat.zero_add, World.ownsRow.cellAt h' j (by omega), flat_get l j hj']
  have := Go.Sort.get_flatK Cd.cells 4 l.toArray j (by simpa using hj')
  rw [this]; rfl
theorem own_put {w : World} {B g n cap : Nat} {l l' : List Cd} (hn : l.length = n) (hl : l'.length = n) (h : Own w B (.slice (some ⟨g, 0, none⟩) n cap) l) (q : Nat) (os : Array Obj) :
    Own (Go.Sort.grow (Go.Sort.putRowK Cd.cells 4 (Go.Sort.ahead w q) g 0 l'.toArray) os) B (.slice (some ⟨g, 0, none⟩) n cap) l' ∧ w.grownBy (Go.Sort.grow (Go.Sort.putRowK Cd.cells 4 (Go.Sort.ahead w q) g 0 l'.toArray) os) (some g) := by
  have hh : ∀ k, (Go.Sort.putRowK Cd.cells 4 (Go.Sort.ahead w q) g 0 l'.toArray).heap[k]? = if g = k then (w.heap[k]?).map (Go.Sort.onCells (Go.Sort.putCells id 0 (Go.Sort.flatK Cd.cells 4 l'.toArray))) else w.heap[k]? := fun k => by
    unfold Go.Sort.putRowK Go.Sort.putRow Go.Sort.mapBlock Go.Sort.ahead
    simp only [Array.getElem?_modify]
  have hsz : (Go.Sort.putRowK Cd.cells 4 (Go.Sort.ahead w q) g 0 l'.toArray).heap.size = w.heap.size := by
    unfold Go.Sort.putRowK Go.Sort.putRow Go.Sort.mapBlock Go.Sort.ahead
    simp
  obtain ⟨h0, ⟨e, _⟩ | ⟨g', cap', cur, e, hB, hg, hc, hm, hs, ht⟩⟩ := h
  · exact absurd e (by simp)
  · injection e with e1 e2 e3
    injection e1 with e1
    injection e1 with e1
    subst e1; subst e3
    have hlt : g < w.heap.size := (Array.getElem?_eq_some_iff.1 hg).1
    have hgn : l.length = n := hn
    refine ⟨⟨by rw [flat_len, hl]; omega, .inr ⟨g, cap, Go.Sort.putCells id 0 (Go.Sort.flatK Cd.cells 4 l'.toArray) cur, by rw [hl], hB, ?_, by omega, hm, ?_, ?_⟩⟩, ⟨rfl, rfl, rfl, ?_, fun k hk hne => ?_⟩⟩
    · show (_ ++ os)[g]? = _
      rw [Array.getElem?_append_left (by rw [hsz]; exact hlt), hh, if_pos rfl, hg]
      rfl
    · unfold Go.Sort.putCells; rw [Array.size_mapIdx]; exact hs
    · rw [← flatK_flat]
      apply List.ext_getElem?
      intro t
      have hF : (Go.Sort.flatK Cd.cells 4 l'.toArray).size = n * 4 := by rw [Go.Sort.size_flatK]; simp [hl]
      by_cases htn : t < n * 4
      · have htc : t < cur.size := by rw [hs]; have := Nat.mul_le_mul_right 4 hc; omega
        rw [List.getElem?_take_of_lt (by rw [hl]; exact htn), Array.getElem?_toList, Array.getElem?_toList]
        unfold Go.Sort.putCells
        rw [Array.getElem?_mapIdx, Array.getElem?_eq_getElem htc]
        simp only [Option.map_some]
        rw [if_pos ⟨Nat.zero_le _, by omega⟩, Nat.sub_zero, getElem!_pos _ t (by omega), Array.getElem?_eq_getElem (by omega)]
        rfl
      · rw [List.getElem?_eq_none (by rw [List.length_take]; omega), List.getElem?_eq_none (by rw [Array.length_toList]; omega)]
    · show w.heap.size ≤ (_ ++ os).size
      rw [Array.size_append, hsz]; omega
    · show (_ ++ os)[k]? = _
      rw [Array.getElem?_append_left (by rw [hsz]; exact hk), hh, if_neg (fun e => hne (by rw [e]))]
end Go.Proofs.Ytjmlefcmhjodeaa.cards
