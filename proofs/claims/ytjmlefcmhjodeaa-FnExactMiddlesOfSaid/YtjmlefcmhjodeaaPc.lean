/- PutCard: the program and the model alike. -/
import Derived.Test.YtjmlefcmhjodeaaGw
import Derived.Test.YtjmlefcmhjodeaaPu
import Derived.Test.YtjmlefcmhjodeaaHs
import Derived.Deep.RegionHeld3
namespace Go.Proofs.Ytjmlefcmhjodeaa.cards
open Go.RowKit
set_option linter.unusedVariables false

theorem cell_last (w : World) (cs : Array Value) (t : TypeId) (g j : Nat) (hg : w.heap.size = g) : ((w.alloc (.cells cs t)).drew).cell? ⟨g, j, none⟩ = cs[j]? := by
  subst hg
  exact cell_of_row (w.alloc (.cells cs t)) w.heap.size j _ _ _ (heap_alloc_new w _)
theorem parts_put {w : World} {ba o n cp k : Nat} {l : List Cd} {c : Cd} (hr : Rd w (some ⟨ba, o, none⟩) (flat l)) (hn : l.length = n) (hk : k ≤ n) (hcp : n ≤ cp) :
    ∀ j l', [l.take k, [c], l.drop k][j]? = some l' → ∃ q c', (((w.alloc c.obj).alloc (.cells #[.slice (some ⟨ba, o, none⟩) k cp, .slice (some ⟨w.heap.size, 0, none⟩) 1 1, .slice (if cp = k then some ⟨ba, o, none⟩ else some ⟨ba, o + k * 4, none⟩) (n - k) (cp - k)] 26)).drew).cell? ⟨w.heap.size + 1, j, none⟩ = some (.slice q l'.length c') ∧ Rd (((w.alloc c.obj).alloc (.cells #[.slice (some ⟨ba, o, none⟩) k cp, .slice (some ⟨w.heap.size, 0, none⟩) 1 1, .slice (if cp = k then some ⟨ba, o, none⟩ else some ⟨ba, o + k * 4, none⟩) (n - k) (cp - k)] 26)).drew) q (flat l') ∧ (q = none → c' = 0) := by
  have hz : (w.alloc c.obj).heap.size = w.heap.size + 1 := by simp
  have hTl : (l.take k).length = k := by rw [List.length_take, hn]; omega
  have hDl : (l.drop k).length = n - k := by rw [List.length_drop, hn]
  intro j l' h
  have hj : j < 3 := (List.getElem?_eq_some_iff.1 h).1
  rcases (show j = 0 ∨ j = 1 ∨ j = 2 by omega) with rfl | rfl | rfl
  · simp at h; subst h
    exact ⟨_, _, by rw [cell_last _ _ _ _ _ hz, hTl]; rfl, (((hr.alloc _).alloc _).drew).take k, fun h => by cases h⟩
  · simp at h; subst h
    exact ⟨_, _, by rw [cell_last _ _ _ _ _ hz]; rfl, Box.rd1 (((Box.new w c).alloc _).drew), fun h => by cases h⟩
  · simp at h; subst h
    exact ⟨_, _, by rw [cell_last _ _ _ _ _ hz, hDl]; rfl, (((hr.alloc _).alloc _).drew).dropIf k (by rw [hn]; exact hcp), fun h => by split at h <;> cases h⟩

noncomputable def putR (l : List Cd) (c : Cd) : List Cd × Bool := if handB l = true ∧ c.ok = true ∧ l.length < 27 ∧ there l c = false then (put l c, true) else ([], false)
theorem put_len (l : List Cd) (c : Cd) : (put l c).length ≤ l.length + 1 := by
  unfold put
  split
  · omega
  · rw [List.length_append, List.length_cons, List.length_take, List.length_drop]; omega
theorem putR_len (l : List Cd) (c : Cd) : (putR l c).1.length ≤ 1000 := by
  unfold putR
  split
  · rename_i h
    have h1 := (handB_true.1 h.1).1
    have h2 := put_len l c
    show (put l c).length ≤ _
    omega
  · simp

end Go.Proofs.Ytjmlefcmhjodeaa.cards
