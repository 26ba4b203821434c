/- Maps: the images of all cards of a hand. -/
import Derived.Test.YtngfdfgeoieebaaPu
import Derived.Test.YtngfdfgeoieebaaMa
import Derived.Test.YtngfdfgeoieebaaIh
namespace Go.Proofs.Ytngfdfgeoieebaa.maps
open Go.RowKit
open cards
set_option linter.unusedVariables false

def imgs (m : Mp) (l : List Cd) : List Cd := l.map (img m)
theorem imgs_len (m : Mp) (l : List Cd) : (imgs m l).length = l.length := List.length_map _
theorem imgs_at {m : Mp} {l : List Cd} {k : Nat} {x : Cd} (h : l[k]? = some x) : (imgs m l)[k]? = some (img m x) := by unfold imgs; rw [List.getElem?_map, h]; rfl
theorem imgs_ok {m : Mp} (hm : m.ok = true) (l : List Cd) : (imgs m l).all Cd.ok = true := by
  rw [List.all_eq_true]; intro x hx
  obtain ⟨y, _, rfl⟩ := List.mem_map.1 hx
  exact img_ok hm y
/-- Different cards have different images. -/
theorem img_inj {m : Mp} (hm : m.ok = true) {x y : Cd} (hx : x.ok = true) (hy : y.ok = true) (h : img m x = img m y) : x = y := by
  obtain ⟨n, h1, _, h3⟩ := pow_ord hm
  have e : ∀ k, img (pow m (k + 1)) x = img (pow m (k + 1)) y := fun k => by
    rw [← pow_front hm k, img_bh, img_bh, h]
  obtain ⟨k, rfl⟩ : ∃ k, n = k + 1 := ⟨n - 1, by omega⟩
  have := e k
  rw [h3, img_id hx, img_id hy] at this
  exact this
theorem imgs_nodup {m : Mp} (hm : m.ok = true) {l : List Cd} (hok : l.all Cd.ok = true) (hnd : l.Nodup) : (imgs m l).Nodup := by
  unfold imgs
  rw [List.nodup_iff_pairwise_ne, List.pairwise_map]
  refine List.Pairwise.imp_of_mem (fun {x y} hx hy hne e => hne (img_inj hm (List.all_eq_true.1 hok x hx) (List.all_eq_true.1 hok y hy) e)) hnd
theorem sorted_nodup {l : List Cd} (hs : sorted l) : l.Nodup := by
  rw [List.nodup_iff_pairwise_ne]
  exact List.Pairwise.imp (fun {x y} h e => by subst e; omega) hs
noncomputable def mhR (m : Mp) (l : List Cd) : List Cd × Bool := if m.ok = true ∧ handB l = true then (allPut (imgs m l), true) else ([], false)
theorem allPut_le81 {l : List Cd} (hok : l.all Cd.ok = true) : (allPut l).length ≤ 81 := sorted_81 (allPut_is hok).1 (allPut_is hok).2.1
theorem mhR_len (m : Mp) (l : List Cd) : (mhR m l).1.length ≤ 1000 := by
  unfold mhR; split
  · rename_i h; exact Nat.le_trans (allPut_le81 (imgs_ok h.1 l)) (by omega)
  · simp

end Go.Proofs.Ytngfdfgeoieebaa.maps
