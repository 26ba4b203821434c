/- GreatestCap and FewestDrops: the model. -/
import Derived.Test.YtbimbaogjknboaaSh
import Derived.Test.YtbimbaogjknboaaGh
namespace Go.Proofs.Ytbimbaogjknboaa.cards
open Go.RowKit
set_option linter.unusedVariables false

theorem sr_best {l : List Cd} {n : Nat} (hn : l.length = n) : sr l n [] [] = best l := by
  subst hn
  rw [sr_all l.length [] [] (Nat.le_refl _)]; rfl

set_option maxRecDepth 100000 in
set_option maxHeartbeats 4000000 in
theorem spec_best (l : List Cd) (p : Option Addr) (n cp : Nat) (w : World) (hn : l.length = n) (hl : n ≤ 1000000000) (hr : Rd w p (flat l)) :
    Calls Try.prog 35 #[.slice p n cp] w fun e w' => ∃ u, e = .returned (.tuple #[u, .bool (bestR l).2]) ∧ OwnI w' w.heap.size u (bestR l).1 ∧ Below w.heap.size w w' := by
  have HN := Lib.hid hn
  have HR := Lib.hid hr
  clear hn hr
  go_enter Try.func35, Try.ntmps35
  go_wp2_with fail
  refine ((l3_pool l p n cp _ HN.out hl (by repeat (first | with_reducible exact HR.out | with_reducible apply Rd.drewN | with_reducible apply Rd.drew | with_reducible apply Rd.alloc)))).mono ?_
  rintro e w1 ⟨rfl, b⟩
  have Sw1 := Lib.hid b.size
  have HB := Lib.hid (chain0 (w := w) (by repeat (first | with_reducible exact Below.refl _ _ | with_reducible exact HB.out | with_reducible apply Below.drew | with_reducible apply bdN | with_reducible refine Below.alloc ?_ (by first | exact Nat.le_refl _ | (simp; done) | (simp; omega) | (have := HB.out.size; simp at *; omega)) _ | with_reducible refine Below.setCell ?_ (by first | exact Nat.le_refl _ | (simp; done) | (simp; omega) | (have := HB.out.size; simp at *; omega)) _)) b)
  have HR := Lib.hid (Rd.below (by repeat (first | with_reducible exact HR.out | with_reducible apply Rd.drewN | with_reducible apply Rd.drew | with_reducible apply Rd.alloc)) b)
  clear b
  cases hh : poolB l
  · have HT := Lib.hid (show bestR l = ([], false) by unfold bestR; rw [if_neg (by simp [hh])])
    go_wp2_with fail
    go_ret2
    exact ⟨_, ret_two (by rw [HT.out]), by rw [HT.out]; exact OwnI.empty _ _ HB.out.size, by repeat (first | with_reducible exact Below.refl _ _ | with_reducible exact HB.out | with_reducible apply Below.drew | with_reducible apply bdN | with_reducible refine Below.alloc ?_ (by first | exact Nat.le_refl _ | (simp; done) | (simp; omega) | (have := HB.out.size; simp at *; omega)) _ | with_reducible refine Below.setCell ?_ (by first | exact Nat.le_refl _ | (simp; done) | (simp; omega) | (have := HB.out.size; simp at *; omega)) _)⟩
  · have HT := Lib.hid (show bestR l = (best l, true) by unfold bestR; rw [if_pos hh])
    have HH := Lib.hid (handB_true.1 (poolB_iff.1 hh).1)
    have h15 : n ≤ 15 := by have := (poolB_iff.1 hh).2; have := HN.out; omega
    have HE := Lib.hid (OwnI.empty w1 w.heap.size HB.out.size)
    clear hh
    go_wp2_with fail
    refine (l3_search l p n cp HN.out (by omega) HH.out.2.1 HH.out.2.2 n 0 0 [] w1.heap.size 0 0 w.heap.size _ rfl (by omega) rfl (Good.nil l) (by repeat (first | with_reducible exact HR.out | with_reducible apply Rd.drewN | with_reducible apply Rd.drew | with_reducible apply Rd.alloc)) HE.out (by have := HB.out.size; simp; omega)).mono ?_
    rintro e w2 ⟨g, c, rfl, hu, b⟩
    rw [sr_best HN.out] at hu ⊢
    have Sw2 := Lib.hid b.size
    have HB := Lib.hid (chain0 (w := w) (by repeat (first | with_reducible exact Below.refl _ _ | with_reducible exact HB.out | with_reducible apply Below.drew | with_reducible apply bdN | with_reducible refine Below.alloc ?_ (by first | exact Nat.le_refl _ | (simp; done) | (simp; omega) | (have := HB.out.size; simp at *; omega)) _ | with_reducible refine Below.setCell ?_ (by first | exact Nat.le_refl _ | (simp; done) | (simp; omega) | (have := HB.out.size; simp at *; omega)) _)) b)
    have HR := Lib.hid (Rd.below (by repeat (first | with_reducible exact HR.out | with_reducible apply Rd.drewN | with_reducible apply Rd.drew | with_reducible apply Rd.alloc)) b)
    clear b
    have HU := Lib.hid hu
    clear hu
    go_wp2_with fail
    go_ret2
    exact ⟨_, ret_two (by rw [HT.out]), by rw [HT.out]; exact HU.out, HB.out⟩

set_option maxRecDepth 100000 in
set_option maxHeartbeats 4000000 in
theorem spec_few (l : List Cd) (p : Option Addr) (n cp : Nat) (w : World) (hn : l.length = n) (hl : n ≤ 1000000000) (hr : Rd w p (flat l)) (hcp : n ≤ cp) :
    Calls Try.prog 39 #[.slice p n cp] w fun e w' => e = .returned (.tuple #[.int .i64 (fewR l).1, .bool (fewR l).2]) ∧ Below w.heap.size w w' := by
  have HN := Lib.hid hn
  have HR := Lib.hid hr
  clear hn hr
  go_enter Try.func39, Try.ntmps39
  go_wp2_with fail
  refine ((l3_pool l p n cp _ HN.out hl (by repeat (first | with_reducible exact HR.out | with_reducible apply Rd.drewN | with_reducible apply Rd.drew | with_reducible apply Rd.alloc)))).mono ?_
  rintro e w1 ⟨rfl, b⟩
  have Sw1 := Lib.hid b.size
  have HB := Lib.hid (chain0 (w := w) (by repeat (first | with_reducible exact Below.refl _ _ | with_reducible exact HB.out | with_reducible apply Below.drew | with_reducible apply bdN | with_reducible refine Below.alloc ?_ (by first | exact Nat.le_refl _ | (simp; done) | (simp; omega) | (have := HB.out.size; simp at *; omega)) _ | with_reducible refine Below.setCell ?_ (by first | exact Nat.le_refl _ | (simp; done) | (simp; omega) | (have := HB.out.size; simp at *; omega)) _)) b)
  have HR := Lib.hid (Rd.below (by repeat (first | with_reducible exact HR.out | with_reducible apply Rd.drewN | with_reducible apply Rd.drew | with_reducible apply Rd.alloc)) b)
  clear b
  cases hh : poolB l
  · go_wp2_with fail
    go_ret2
    exact ⟨ret_ib (by unfold fewR; rw [if_neg (by simp [hh])]), by repeat (first | with_reducible exact Below.refl _ _ | with_reducible exact HB.out | with_reducible apply Below.drew | with_reducible apply bdN | with_reducible refine Below.alloc ?_ (by first | exact Nat.le_refl _ | (simp; done) | (simp; omega) | (have := HB.out.size; simp at *; omega)) _ | with_reducible refine Below.setCell ?_ (by first | exact Nat.le_refl _ | (simp; done) | (simp; omega) | (have := HB.out.size; simp at *; omega)) _)⟩
  · have HT := Lib.hid (show fewR l = ((l.length : Int) - (best l).length, true) by unfold fewR; rw [if_pos hh])
    have HH := Lib.hid (handB_true.1 (poolB_iff.1 hh).1)
    have h15 : n ≤ 15 := by have := (poolB_iff.1 hh).2; have := HN.out; omega
    have HE := Lib.hid (OwnI.empty w1 w.heap.size HB.out.size)
    clear hh
    go_wp2_with fail
    refine (l3_search l p n cp HN.out (by omega) HH.out.2.1 HH.out.2.2 n 0 0 [] w1.heap.size 0 0 w.heap.size _ rfl (by omega) rfl (Good.nil l) (by repeat (first | with_reducible exact HR.out | with_reducible apply Rd.drewN | with_reducible apply Rd.drew | with_reducible apply Rd.alloc)) HE.out (by have := HB.out.size; simp; omega)).mono ?_
    rintro e w2 ⟨g, c, rfl, hu, b⟩
    rw [sr_best HN.out] at hu ⊢
    have hle := best_len l
    rw [HN.out] at hle
    obtain ⟨m, hm⟩ : ∃ m, (best l).length = m := ⟨_, rfl⟩
    have HM := Lib.hid hm
    rw [hm] at hle ⊢
    have Sw2 := Lib.hid b.size
    have HB := Lib.hid (chain0 (w := w) (by repeat (first | with_reducible exact Below.refl _ _ | with_reducible exact HB.out | with_reducible apply Below.drew | with_reducible apply bdN | with_reducible refine Below.alloc ?_ (by first | exact Nat.le_refl _ | (simp; done) | (simp; omega) | (have := HB.out.size; simp at *; omega)) _ | with_reducible refine Below.setCell ?_ (by first | exact Nat.le_refl _ | (simp; done) | (simp; omega) | (have := HB.out.size; simp at *; omega)) _)) b)
    have HR := Lib.hid (Rd.below (by repeat (first | with_reducible exact HR.out | with_reducible apply Rd.drewN | with_reducible apply Rd.drew | with_reducible apply Rd.alloc)) b)
    clear b
    clear hu hm
    have h0 : (0 : Int) ≤ (m : Int) := by omega
    have h1 : (m : Int) ≤ 15 := by omega
    have h2 : (0 : Int) ≤ (n : Int) := by omega
    have h3 : (n : Int) ≤ 15 := by omega
    go_wp2_with fail
    go_ret2
    exact ⟨ret_ib (by rw [HT.out, HN.out, HM.out]), HB.out⟩
end Go.Proofs.Ytbimbaogjknboaa.cards
