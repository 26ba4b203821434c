/- Maps: MapHand. -/
import Derived.Test.YtngfdfgeoieebaaDc
import Derived.Test.YtngfdfgeoieebaaIh
namespace Go.Proofs.Ytngfdfgeoieebaa.maps
open Go.RowKit
open cards reg
set_option linter.unusedVariables false

set_option maxRecDepth 100000 in
set_option maxHeartbeats 4000000 in
theorem impl_mh (m : Mp) (l : List Cd) (p : Option Addr) (n cp : Nat) (w : World) (hn : l.length = n) (hl : n ≤ 1000000000) (hr : Rd w p (flat l)) :
    Calls Try.prog 26 #[m.val, .slice p n cp] w fun e w' => ∃ u, e = .returned (.tuple #[u, .bool (mhR m l).2]) ∧ Own w' w.heap.size u (mhR m l).1 ∧ Below w.heap.size w w' := by
  have HI := Lib.hid (fun w => is_map m w)
  have HN := Lib.hid hn
  have HR := Lib.hid (Rd.alloc hr (Mv.obj ⟨28, m⟩))
  have K0 : Hid (MBox (w.alloc (Mv.obj ⟨28, m⟩)) w.heap.size ⟨28, m⟩) := Lib.hid (MBox.newAt rfl rfl)
  have HB : Hid (Below w.heap.size w (w.alloc (Mv.obj ⟨28, m⟩))) := Lib.hid ((Below.refl _ _).alloc (Nat.le_refl _) _)
  clear hn hr
  go_enter Try.func26, Try.ntmps26
  go_upto_region 1 with fail
  generalize w.alloc (Mv.obj ⟨28, m⟩) = W at *
  cases hm : m.ok
  · have HT := Lib.hid (show mhR m l = ([], false) by unfold mhR; rw [if_neg (by simp [hm])])
    rw [hm] at HI
    clear hm
    go_wp2_with ((with_reducible refine take_map rfl _ rfl K0.out ?_ ?_); rfl)
    refine (HI.out _).mono ?_
    rintro e w1 ⟨rfl, q⟩
    have HB := Lib.hid (chain0 HB.out q)
    clear q
    go_wp2_with fail
    go_ret2
    exact ⟨_, ret_two (by rw [HT.out]), by rw [HT.out]; exact Own.empty _ _ HB.out.size, by repeat (first | with_reducible exact Below.refl _ _ | with_reducible exact HB.out | with_reducible apply Below.drew | with_reducible apply bdN | with_reducible refine Below.alloc ?_ (by first | exact Nat.le_refl _ | with_reducible exact HB.out.size | omega | (simp; done) | (simp; omega) | (have := HB.out.size; simp at *; omega)) _ | with_reducible refine Below.setCell ?_ (by first | exact Nat.le_refl _ | with_reducible exact HB.out.size | omega | (simp; done) | (simp; omega) | (have := HB.out.size; simp at *; omega)) _)⟩
  · rw [hm] at HI
    go_wp2_with ((with_reducible refine take_map rfl _ rfl K0.out ?_ ?_); rfl)
    refine (HI.out _).mono ?_
    rintro e w1 ⟨rfl, q⟩
    have HB := Lib.hid (chain0 HB.out q)
    have K0 := Lib.hid (MBox.below K0.out q)
    have HR := Lib.hid (Rd.below HR.out q)
    clear q
    have HJ := is_hand l p n cp w1 HN.out hl HR.out
    cases hh : handB l
    · have HT := Lib.hid (show mhR m l = ([], false) by unfold mhR; rw [if_neg (by simp [hh])])
      rw [hh] at HJ
      clear hm hh
      go_wp2_with fail
      refine HJ.mono ?_
      clear HJ
      rintro e w2 ⟨rfl, q⟩
      have HB := Lib.hid (chain0 HB.out q)
      clear q
      go_wp2_with fail
      go_ret2
      exact ⟨_, ret_two (by rw [HT.out]), by rw [HT.out]; exact Own.empty _ _ HB.out.size, by repeat (first | with_reducible exact Below.refl _ _ | with_reducible exact HB.out | with_reducible apply Below.drew | with_reducible apply bdN | with_reducible refine Below.alloc ?_ (by first | exact Nat.le_refl _ | with_reducible exact HB.out.size | omega | (simp; done) | (simp; omega) | (have := HB.out.size; simp at *; omega)) _ | with_reducible refine Below.setCell ?_ (by first | exact Nat.le_refl _ | with_reducible exact HB.out.size | omega | (simp; done) | (simp; omega) | (have := HB.out.size; simp at *; omega)) _)⟩
    · have HT := Lib.hid (show mhR m l = (allPut (imgs m l), true) by unfold mhR; rw [if_pos ⟨hm, hh⟩])
      have HM := Lib.hid hm
      have HH := Lib.hid (handB_true.1 hh)
      rw [hh] at HJ
      have h27 : n ≤ 27 := by have := HH.out.1; have := HN.out; omega
      clear hm hh
      go_wp2_with fail
      refine HJ.mono ?_
      clear HJ
      rintro e w2 ⟨rfl, q⟩
      have HB := Lib.hid (chain0 HB.out q)
      have K0 := Lib.hid (MBox.below K0.out q)
      have HR := Lib.hid (Rd.below HR.out q)
      clear q
      go_wp2_with ((with_reducible refine take_map rfl _ rfl K0.out ?_ ?_); rfl)
      refine (image_hand m l p n cp _ HM.out HN.out (by omega) HR.out HH.out.2.1 (sorted_nodup HH.out.2.2)).mono ?_
      rintro e w3 ⟨u, rfl, hu, q⟩
      have HU := Lib.hid (Own.base hu HB.out.size)
      have HB := Lib.hid (chain0 HB.out q)
      clear q hu
      go_wp2_with fail
      go_ret2
      exact ⟨_, ret_two (by rw [HT.out]), by rw [HT.out]; exact HU.out, HB.out⟩
end Go.Proofs.Ytngfdfgeoieebaa.maps
