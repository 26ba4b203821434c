/- MostDisjoint and FirstPicking: the model's. -/
import Derived.Test.YtnmlggieabjapaaZ3
import Derived.Test.YtnmlggieabjapaaZ4
namespace Go.Proofs.Ytnmlggieabjapaa.parting
open Go.RowKit
open cards maps
set_option linter.unusedVariables false

set_option maxRecDepth 100000 in
set_option maxHeartbeats 2000000 in
theorem l7_pool (l : List Cd) (p : Option Addr) (n cp : Nat) (w : World) (hn : l.length = n) (hl : n ≤ 1000000000) (hr : Rd w p (flat l)) :
    Calls Try.prog 70 #[.slice p n cp] w fun e w' => e = .returned (.bool (poolP l)) ∧ Below w.heap.size w w' := by
  have HN := Lib.hid hn
  have HR := Lib.hid hr
  clear hn hr
  go_enter Try.func70, Try.ntmps70
  go_wp2_with fail
  refine ((l2_hand l p n cp _ HN.out hl (by repeat (first | with_reducible exact HR.out | with_reducible apply Rd.drewN | with_reducible apply Rd.drew | with_reducible apply Rd.alloc)))).mono ?_
  rintro e w1 ⟨rfl, b⟩
  have Sw1 := Lib.hid b.size
  have HB := Lib.hid (chain0 (w := w) (by repeat (first | with_reducible exact Below.refl _ _ | with_reducible exact HB.out | with_reducible apply Below.drew | with_reducible apply bdN | with_reducible refine Below.alloc ?_ (by first | exact Nat.le_refl _ | with_reducible exact HB.out.size | omega | (simp; done) | (simp; omega) | (have := HB.out.size; simp at *; omega)) _ | with_reducible refine Below.setCell ?_ (by first | exact Nat.le_refl _ | with_reducible exact HB.out.size | omega | (simp; done) | (simp; omega) | (have := HB.out.size; simp at *; omega)) _)) b)
  have HR := Lib.hid (Rd.below (by repeat (first | with_reducible exact HR.out | with_reducible apply Rd.drewN | with_reducible apply Rd.drew | with_reducible apply Rd.alloc)) b)
  clear b
  cases hh : handB l
  · have HP := Lib.hid (show poolP l = false by unfold poolP; rw [hh]; rfl)
    go_wp2_with fail
    go_ret
    exact ⟨ret_bool (by rw [HP.out]), by repeat (first | with_reducible exact Below.refl _ _ | with_reducible exact HB.out | with_reducible apply Below.drew | with_reducible apply bdN | with_reducible refine Below.alloc ?_ (by first | exact Nat.le_refl _ | with_reducible exact HB.out.size | omega | (simp; done) | (simp; omega) | (have := HB.out.size; simp at *; omega)) _ | with_reducible refine Below.setCell ?_ (by first | exact Nat.le_refl _ | with_reducible exact HB.out.size | omega | (simp; done) | (simp; omega) | (have := HB.out.size; simp at *; omega)) _)⟩
  · by_cases h : n ≤ 15
    · have hd : (n : Int) ≤ 15 := by omega
      have HP := Lib.hid (show poolP l = true by unfold poolP; rw [HN.out, decide_eq_true h, hh]; rfl)
      go_wp2_with fail
      go_ret
      exact ⟨ret_bool (by rw [HP.out]), by repeat (first | with_reducible exact Below.refl _ _ | with_reducible exact HB.out | with_reducible apply Below.drew | with_reducible apply bdN | with_reducible refine Below.alloc ?_ (by first | exact Nat.le_refl _ | with_reducible exact HB.out.size | omega | (simp; done) | (simp; omega) | (have := HB.out.size; simp at *; omega)) _ | with_reducible refine Below.setCell ?_ (by first | exact Nat.le_refl _ | with_reducible exact HB.out.size | omega | (simp; done) | (simp; omega) | (have := HB.out.size; simp at *; omega)) _)⟩
    · have hd : decide ((n : Int) ≤ 15) = false := by simp; omega
      have HP := Lib.hid (show poolP l = false by unfold poolP; rw [HN.out, decide_eq_false h]; simp)
      go_wp2_with fail
      go_ret
      exact ⟨ret_bool (by rw [HP.out]), by repeat (first | with_reducible exact Below.refl _ _ | with_reducible exact HB.out | with_reducible apply Below.drew | with_reducible apply bdN | with_reducible refine Below.alloc ?_ (by first | exact Nat.le_refl _ | with_reducible exact HB.out.size | omega | (simp; done) | (simp; omega) | (have := HB.out.size; simp at *; omega)) _ | with_reducible refine Below.setCell ?_ (by first | exact Nat.le_refl _ | with_reducible exact HB.out.size | omega | (simp; done) | (simp; omega) | (have := HB.out.size; simp at *; omega)) _)⟩

/-- The model's search behind the lines. -/
theorem best_call (A : List A3) (pa : Option Addr) (m ca B : Nat) (w2 : World) (hm : A.length = m) (hl : m ≤ 100000) (hA : Rd w2 pa (A3.flat A)) (hB : B ≤ w2.heap.size) :
    Calls Try.prog 71 #[.slice pa m ca, .slice (some ⟨w2.heap.size, 0, none⟩) 0 0, .int .i64 0] (w2.alloc (.cells #[] 56)) fun e w' => ∃ g' c', e = .returned (.slice (some ⟨g', 0, none⟩) (bestP A).length c') ∧ OwnA3 w' B (.slice (some ⟨g', 0, none⟩) (bestP A).length c') (bestP A) ∧ Below B w2 w' :=
  (l7_best A pa m ca hm hl m 0 0 [] w2.heap.size 0 0 B (w2.alloc (.cells #[] 56)) rfl (by omega) rfl (by omega) (hA.alloc _) (OwnA3.empty w2 B hB) (by simp; omega)).mono fun e w' ⟨g', c', he, ho, hb⟩ => by
    have e0 : bs (A.drop 0) [] [] = bestP A := rfl
    rw [e0] at he ho
    exact ⟨g', c', he, ho, ((Below.refl _ _).alloc hB _).trans (hb.mono (by simp; omega))⟩

set_option maxRecDepth 100000 in
set_option maxHeartbeats 4000000 in
theorem spec_fp (l : List Cd) (p : Option Addr) (n cp : Nat) (w : World) (hn : l.length = n) (hl : n ≤ 1000000000) (hr : Rd w p (flat l)) :
    Calls Try.prog 39 #[.slice p n cp] w fun e w' => ∃ u, e = .returned (.tuple #[u, .bool (fpR l).2]) ∧ OwnA3 w' w.heap.size u (fpR l).1 ∧ Below w.heap.size w w' := by
  have HN := Lib.hid hn
  have HR := Lib.hid hr
  clear hn hr
  go_enter Try.func39, Try.ntmps39
  go_wp2_with fail
  refine ((l7_pool l p n cp _ HN.out hl (by repeat (first | with_reducible exact HR.out | with_reducible apply Rd.drewN | with_reducible apply Rd.drew | with_reducible apply Rd.alloc)))).mono ?_
  rintro e w1 ⟨rfl, b⟩
  have Sw1 := Lib.hid b.size
  have HB := Lib.hid (chain0 (w := w) (by repeat (first | with_reducible exact Below.refl _ _ | with_reducible exact HB.out | with_reducible apply Below.drew | with_reducible apply bdN | with_reducible refine Below.alloc ?_ (by first | exact Nat.le_refl _ | with_reducible exact HB.out.size | omega | (simp; done) | (simp; omega) | (have := HB.out.size; simp at *; omega)) _ | with_reducible refine Below.setCell ?_ (by first | exact Nat.le_refl _ | with_reducible exact HB.out.size | omega | (simp; done) | (simp; omega) | (have := HB.out.size; simp at *; omega)) _)) b)
  have HR := Lib.hid (Rd.below (by repeat (first | with_reducible exact HR.out | with_reducible apply Rd.drewN | with_reducible apply Rd.drew | with_reducible apply Rd.alloc)) b)
  clear b
  cases hh : poolP l
  · have HT := Lib.hid (show fpR l = ([], false) by unfold fpR; rw [if_neg (by simp [hh])])
    clear hh
    go_wp2_with fail
    go_ret2
    exact ⟨_, ret_two (by rw [HT.out]), by rw [HT.out]; exact OwnA3.empty _ _ HB.out.size, by repeat (first | with_reducible exact Below.refl _ _ | with_reducible exact HB.out | with_reducible apply Below.drew | with_reducible apply bdN | with_reducible refine Below.alloc ?_ (by first | exact Nat.le_refl _ | with_reducible exact HB.out.size | omega | (simp; done) | (simp; omega) | (have := HB.out.size; simp at *; omega)) _ | with_reducible refine Below.setCell ?_ (by first | exact Nat.le_refl _ | with_reducible exact HB.out.size | omega | (simp; done) | (simp; omega) | (have := HB.out.size; simp at *; omega)) _)⟩
  · have HT := Lib.hid (show fpR l = (bestP (allL l n), true) by unfold fpR; rw [if_pos hh, HN.out])
    have HH := Lib.hid (handB_true.1 (poolP_iff.1 hh).1)
    have h27 : n ≤ 27 := by have := HH.out.1; have := HN.out; omega
    have hlen := lines_len HH.out
    rw [HN.out] at hlen
    have HL := l2_lines l p n cp w1 HN.out h27 HR.out HH.out.2.1 HH.out.2.2
    obtain ⟨A, hA⟩ : ∃ A, allL l n = A := ⟨_, rfl⟩
    rw [hA] at HT HL hlen
    replace HL := Lib.hid HL
    obtain ⟨m, hm⟩ : ∃ m, A.length = m := ⟨_, rfl⟩
    rw [hm] at hlen
    have HM := Lib.hid hm
    clear hA hm hh
    go_wp2_with fail
    refine (HL.out).mono ?_
    rintro e w2 ⟨u, rfl, hu, b⟩
    have HU := Lib.hid hu
    have Sw2 := Lib.hid b.size
    have HB := Lib.hid (chain0 (w := w) (by repeat (first | with_reducible exact Below.refl _ _ | with_reducible exact HB.out | with_reducible apply Below.drew | with_reducible apply bdN | with_reducible refine Below.alloc ?_ (by first | exact Nat.le_refl _ | with_reducible exact HB.out.size | omega | (simp; done) | (simp; omega) | (have := HB.out.size; simp at *; omega)) _ | with_reducible refine Below.setCell ?_ (by first | exact Nat.le_refl _ | with_reducible exact HB.out.size | omega | (simp; done) | (simp; omega) | (have := HB.out.size; simp at *; omega)) _)) b)
    have HR := Lib.hid (Rd.below (by repeat (first | with_reducible exact HR.out | with_reducible apply Rd.drewN | with_reducible apply Rd.drew | with_reducible apply Rd.alloc)) b)
    clear b
    clear hu
    obtain ⟨pa, ca, rfl, _, ra, _⟩ := HU.out.form
    rw [HM.out]
    have HA := Lib.hid ra
    have HSz := Lib.hid HB.out.size
    clear ra HU
    go_wp2_with fail
    refine (best_call A pa m ca w.heap.size w2 HM.out (by omega) HA.out HSz.out).mono ?_
    rintro e w3 ⟨g', c', rfl, ho, b3⟩
    have HO := Lib.hid ho
    have HB3 : Hid (Below w.heap.size w w3) := Lib.hid (HB.out.trans b3)
    clear ho b3
    go_wp2_with fail
    go_ret2
    exact ⟨_, ret_two (by rw [HT.out]), by rw [HT.out]; exact HO.out, HB3.out⟩

set_option maxRecDepth 100000 in
set_option maxHeartbeats 4000000 in
theorem spec_md (l : List Cd) (p : Option Addr) (n cp : Nat) (w : World) (hn : l.length = n) (hl : n ≤ 1000000000) (hr : Rd w p (flat l)) (hcp : n ≤ cp) :
    Calls Try.prog 37 #[.slice p n cp] w fun e w' => e = .returned (.tuple #[.int .i64 (mdR l).1, .bool (mdR l).2]) ∧ Below w.heap.size w w' := by
  have HN := Lib.hid hn
  have HR := Lib.hid hr
  clear hn hr hcp
  go_enter Try.func37, Try.ntmps37
  go_wp2_with fail
  refine ((l7_pool l p n cp _ HN.out hl (by repeat (first | with_reducible exact HR.out | with_reducible apply Rd.drewN | with_reducible apply Rd.drew | with_reducible apply Rd.alloc)))).mono ?_
  rintro e w1 ⟨rfl, b⟩
  have Sw1 := Lib.hid b.size
  have HB := Lib.hid (chain0 (w := w) (by repeat (first | with_reducible exact Below.refl _ _ | with_reducible exact HB.out | with_reducible apply Below.drew | with_reducible apply bdN | with_reducible refine Below.alloc ?_ (by first | exact Nat.le_refl _ | with_reducible exact HB.out.size | omega | (simp; done) | (simp; omega) | (have := HB.out.size; simp at *; omega)) _ | with_reducible refine Below.setCell ?_ (by first | exact Nat.le_refl _ | with_reducible exact HB.out.size | omega | (simp; done) | (simp; omega) | (have := HB.out.size; simp at *; omega)) _)) b)
  have HR := Lib.hid (Rd.below (by repeat (first | with_reducible exact HR.out | with_reducible apply Rd.drewN | with_reducible apply Rd.drew | with_reducible apply Rd.alloc)) b)
  clear b
  cases hh : poolP l
  · have HT := Lib.hid (show mdR l = (0, false) by unfold mdR; rw [if_neg (by simp [hh])])
    clear hh
    go_wp2_with fail
    go_ret2
    exact ⟨ret_ib (by rw [HT.out]), HB.out⟩
  · have HT := Lib.hid (show mdR l = (((bestP (allL l n)).length : Int), true) by unfold mdR; rw [if_pos hh, HN.out])
    have HH := Lib.hid (handB_true.1 (poolP_iff.1 hh).1)
    have h27 : n ≤ 27 := by have := HH.out.1; have := HN.out; omega
    have hlen := lines_len HH.out
    rw [HN.out] at hlen
    have HL := l2_lines l p n cp w1 HN.out h27 HR.out HH.out.2.1 HH.out.2.2
    obtain ⟨A, hA⟩ : ∃ A, allL l n = A := ⟨_, rfl⟩
    rw [hA] at HT HL hlen
    replace HL := Lib.hid HL
    obtain ⟨m, hm⟩ : ∃ m, A.length = m := ⟨_, rfl⟩
    rw [hm] at hlen
    have HM := Lib.hid hm
    clear hA hm hh
    go_wp2_with fail
    refine (HL.out).mono ?_
    rintro e w2 ⟨u, rfl, hu, b⟩
    have HU := Lib.hid hu
    have Sw2 := Lib.hid b.size
    have HB := Lib.hid (chain0 (w := w) (by repeat (first | with_reducible exact Below.refl _ _ | with_reducible exact HB.out | with_reducible apply Below.drew | with_reducible apply bdN | with_reducible refine Below.alloc ?_ (by first | exact Nat.le_refl _ | with_reducible exact HB.out.size | omega | (simp; done) | (simp; omega) | (have := HB.out.size; simp at *; omega)) _ | with_reducible refine Below.setCell ?_ (by first | exact Nat.le_refl _ | with_reducible exact HB.out.size | omega | (simp; done) | (simp; omega) | (have := HB.out.size; simp at *; omega)) _)) b)
    have HR := Lib.hid (Rd.below (by repeat (first | with_reducible exact HR.out | with_reducible apply Rd.drewN | with_reducible apply Rd.drew | with_reducible apply Rd.alloc)) b)
    clear b
    clear hu
    obtain ⟨pa, ca, rfl, _, ra, _⟩ := HU.out.form
    rw [HM.out]
    have HA := Lib.hid ra
    have HSz := Lib.hid HB.out.size
    clear ra HU
    go_wp2_with fail
    refine (best_call A pa m ca w.heap.size w2 HM.out (by omega) HA.out HSz.out).mono ?_
    rintro e w3 ⟨g', c', rfl, ho, b3⟩
    have HB3 : Hid (Below w.heap.size w w3) := Lib.hid (HB.out.trans b3)
    clear ho b3
    go_wp2_with fail
    go_ret2
    exact ⟨ret_ib (by rw [HT.out]), HB3.out⟩
end Go.Proofs.Ytnmlggieabjapaa.parting
