/- JoinCaps: the program and the model alike. -/
import Derived.Test.YtbimbaogjknboaaJm
import Derived.Test.YtbimbaogjknboaaSo
import Derived.Test.YtbimbaogjknboaaPu
import Derived.Test.YtbimbaogjknboaaCq
namespace Go.Proofs.Ytbimbaogjknboaa.cards
open Go.RowKit
set_option linter.unusedVariables false

noncomputable def joinR (g h : List Cd) : List Cd × Bool := if handB g = true ∧ handB h = true ∧ (allPut (g ++ h)).length ≤ 27 ∧ capB (allPut (g ++ h)) = true then (allPut (g ++ h), true) else ([], false)
theorem joinR_len (g h : List Cd) : (joinR g h).1.length ≤ 1000 := by
  unfold joinR
  split
  · rename_i hh; exact Nat.le_trans hh.2.2.1 (by omega)
  · simp
theorem allPut_le {l : List Cd} (hok : l.all Cd.ok = true) : (allPut l).length ≤ 81 := sorted_81 (allPut_is hok).1 (allPut_is hok).2.1
theorem cell_last2 (w : World) (cs : Array Value) (t : TypeId) (j : Nat) : (w.alloc (.cells cs t)).cell? ⟨w.heap.size, j, none⟩ = cs[j]? :=
  cell_of_row (w.alloc (.cells cs t)) w.heap.size j _ _ _ (heap_alloc_new w _)

set_option maxRecDepth 100000 in
set_option maxHeartbeats 4000000 in
theorem impl_join (l m : List Cd) (p q : Option Addr) (n cp k cq : Nat) (w : World) (hn : l.length = n) (hm : m.length = k) (hl : n ≤ 1000000000) (hk : k ≤ 1000000000) (hr : Rd w p (flat l)) (hq : Rd w q (flat m)) (hp0 : p = none → cp = 0) (hq0 : q = none → cq = 0) :
    Calls Try.prog 44 #[.slice p n cp, .slice q k cq] w fun e w' => ∃ u, e = .returned (.tuple #[u, .bool (joinR l m).2]) ∧ Own w' w.heap.size u (joinR l m).1 ∧ Below w.heap.size w w' := by
  have HN := Lib.hid hn
  have HM := Lib.hid hm
  have HR := Lib.hid hr
  have HQ := Lib.hid hq
  have HP0 := Lib.hid hp0
  have HQ0 := Lib.hid hq0
  clear hn hm hr hq hp0 hq0
  go_enter Try.func44, Try.ntmps44
  go_wp2_with fail
  refine ((is_hand l p n cp _ HN.out hl (by repeat (first | with_reducible exact HR.out | with_reducible apply Rd.drewN | with_reducible apply Rd.drew | with_reducible apply Rd.alloc)))).mono ?_
  rintro e w1 ⟨rfl, b⟩
  have Sw1 := Lib.hid b.size
  have HB := Lib.hid (chain0 (w := w) (by repeat (first | with_reducible exact Below.refl _ _ | with_reducible exact HB.out | with_reducible apply Below.drew | with_reducible apply bdN | with_reducible refine Below.alloc ?_ (by first | exact Nat.le_refl _ | (simp; done) | (simp; omega) | (have := HB.out.size; simp at *; omega)) _ | with_reducible refine Below.setCell ?_ (by first | exact Nat.le_refl _ | (simp; done) | (simp; omega) | (have := HB.out.size; simp at *; omega)) _)) b)
  have HR := Lib.hid (Rd.below (by repeat (first | with_reducible exact HR.out | with_reducible apply Rd.drewN | with_reducible apply Rd.drew | with_reducible apply Rd.alloc)) b)
  have HQ := Lib.hid (Rd.below (by repeat (first | with_reducible exact HQ.out | with_reducible apply Rd.drewN | with_reducible apply Rd.drew | with_reducible apply Rd.alloc)) b)
  clear b
  cases hh : handB l
  · have HT := Lib.hid (show joinR l m = ([], false) by unfold joinR; rw [if_neg (by simp [hh])])
    go_wp2_with fail
    go_ret2
    exact ⟨_, ret_two (by rw [HT.out]), by rw [HT.out]; exact Own.empty _ _ HB.out.size, by repeat (first | with_reducible exact Below.refl _ _ | with_reducible exact HB.out | with_reducible apply Below.drew | with_reducible apply bdN | with_reducible refine Below.alloc ?_ (by first | exact Nat.le_refl _ | (simp; done) | (simp; omega) | (have := HB.out.size; simp at *; omega)) _ | with_reducible refine Below.setCell ?_ (by first | exact Nat.le_refl _ | (simp; done) | (simp; omega) | (have := HB.out.size; simp at *; omega)) _)⟩
  · go_wp2_with fail
    refine ((is_hand m q k cq _ HM.out hk (by repeat (first | with_reducible exact HQ.out | with_reducible apply Rd.drewN | with_reducible apply Rd.drew | with_reducible apply Rd.alloc)))).mono ?_
    rintro e w2 ⟨rfl, b⟩
    have Sw2 := Lib.hid b.size
    have HB := Lib.hid (chain0 (w := w) (by repeat (first | with_reducible exact Below.refl _ _ | with_reducible exact HB.out | with_reducible apply Below.drew | with_reducible apply bdN | with_reducible refine Below.alloc ?_ (by first | exact Nat.le_refl _ | (simp; done) | (simp; omega) | (have := HB.out.size; simp at *; omega)) _ | with_reducible refine Below.setCell ?_ (by first | exact Nat.le_refl _ | (simp; done) | (simp; omega) | (have := HB.out.size; simp at *; omega)) _)) b)
    have HR := Lib.hid (Rd.below (by repeat (first | with_reducible exact HR.out | with_reducible apply Rd.drewN | with_reducible apply Rd.drew | with_reducible apply Rd.alloc)) b)
    have HQ := Lib.hid (Rd.below (by repeat (first | with_reducible exact HQ.out | with_reducible apply Rd.drewN | with_reducible apply Rd.drew | with_reducible apply Rd.alloc)) b)
    clear b
    cases hg : handB m
    · have HT := Lib.hid (show joinR l m = ([], false) by unfold joinR; rw [if_neg (by simp [hg])])
      go_wp2_with fail
      go_ret2
      exact ⟨_, ret_two (by rw [HT.out]), by rw [HT.out]; exact Own.empty _ _ HB.out.size, by repeat (first | with_reducible exact Below.refl _ _ | with_reducible exact HB.out | with_reducible apply Below.drew | with_reducible apply bdN | with_reducible refine Below.alloc ?_ (by first | exact Nat.le_refl _ | (simp; done) | (simp; omega) | (have := HB.out.size; simp at *; omega)) _ | with_reducible refine Below.setCell ?_ (by first | exact Nat.le_refl _ | (simp; done) | (simp; omega) | (have := HB.out.size; simp at *; omega)) _)⟩
    · have HH := Lib.hid (handB_true.1 hh)
      have HG := Lib.hid (handB_true.1 hg)
      have n27 : n ≤ 27 := by have := HH.out.1; have := HN.out; omega
      have k27 : k ≤ 27 := by have := HG.out.1; have := HM.out; omega
      have HA := Lib.hid (app_ok HH.out.2.1 HG.out.2.1)
      have HI := Lib.hid (allPut_is HA.out)
      have HLt := Lib.hid (show (l ++ m).length = n + k by rw [List.length_append, HN.out, HM.out])
      have HF := Lib.hid (show ([l, m] : List (List Cd)).flatten = l ++ m by simp)
      have HPl := Lib.hid (show ([l, m] : List (List Cd)).flatten.length ≤ 1000000 by rw [HF.out, HLt.out]; omega)
      have HPp := Lib.hid (show ∀ j l', ([l, m] : List (List Cd))[j]? = some l' → ∃ q' c', (w2.alloc (.cells #[.slice p n cp, .slice q k cq] 22)).cell? ⟨w2.heap.size, j, none⟩ = some (.slice q' l'.length c') ∧ Rd (w2.alloc (.cells #[.slice p n cp, .slice q k cq] 22)) q' (flat l') ∧ (q' = none → c' = 0) from by
        intro j l' h
        have hj : j < 2 := (List.getElem?_eq_some_iff.1 h).1
        rcases (show j = 0 ∨ j = 1 by omega) with rfl | rfl
        · simp at h; subst h
          exact ⟨p, cp, by rw [cell_last2, HN.out]; rfl, HR.out.alloc _, HP0.out⟩
        · simp at h; subst h
          exact ⟨q, cq, by rw [cell_last2, HM.out]; rfl, HQ.out.alloc _, HQ0.out⟩)
      have hcond : ∀ b : Bool, (handB l = true ∧ handB m = true ∧ (allPut (l ++ m)).length ≤ 27 ∧ b = true) ↔ ((allPut (l ++ m)).length ≤ 27 ∧ b = true) := fun b => ⟨fun h => h.2.2, fun h => ⟨hh, hg, h⟩⟩
      have HCo := Lib.hid hcond
      clear hh hg hcond
      go_wp2_with fail
      refine (concat [l, m] w2.heap.size 2 2 _ rfl (by omega) HPl.out (by simp) HPp.out).mono ?_
      rintro e w3 ⟨u, rfl, hu, b⟩
      rw [HF.out] at hu
      obtain ⟨p3, c3, rfl, hc3, hr3, _⟩ := hu.form
      rw [HLt.out] at hu hc3 ⊢
      have HU := Lib.hid hr3
      have Sw3 := Lib.hid b.size
      have HB := Lib.hid (chain0 (w := w) (by repeat (first | with_reducible exact Below.refl _ _ | with_reducible exact HB.out | with_reducible apply Below.drew | with_reducible apply bdN | with_reducible refine Below.alloc ?_ (by first | exact Nat.le_refl _ | (simp; done) | (simp; omega) | (have := HB.out.size; simp at *; omega)) _ | with_reducible refine Below.setCell ?_ (by first | exact Nat.le_refl _ | (simp; done) | (simp; omega) | (have := HB.out.size; simp at *; omega)) _)) b)
      clear b
      clear hu hr3
      have HS0 := Lib.hid HB.out.size
      go_wp2_with fail
      refine (impl_sort (l ++ m) p3 (n + k) c3 _ HLt.out (by omega) HU.out).mono ?_
      rintro e w4 ⟨v, rfl, hv, b⟩
      have Sw4 := Lib.hid b.size
      have HB := Lib.hid (chain0 (w := w) (by repeat (first | with_reducible exact Below.refl _ _ | with_reducible exact HB.out | with_reducible apply Below.drew | with_reducible apply bdN | with_reducible refine Below.alloc ?_ (by first | exact Nat.le_refl _ | (simp; done) | (simp; omega) | (have := HB.out.size; simp at *; omega)) _ | with_reducible refine Below.setCell ?_ (by first | exact Nat.le_refl _ | (simp; done) | (simp; omega) | (have := HB.out.size; simp at *; omega)) _)) b)
      clear b
      by_cases h27 : (allPut (l ++ m)).length ≤ 27
      · have HSr := Lib.hid (show sortR (l ++ m) = (allPut (l ++ m), true) by unfold sortR; rw [if_pos ⟨HA.out, h27⟩])
        rw [HSr.out] at hv ⊢
        obtain ⟨p4, c4, rfl, hc4, hr4, _⟩ := hv.form
        have HV := Lib.hid (hv.base HS0.out)
        have HVr := Lib.hid hr4
        have HVc := Lib.hid hc4
        clear hv hr4 hc4
        go_wp2_with fail
        refine ((are_cap (allPut (l ++ m)) p4 (allPut (l ++ m)).length c4 _ rfl (by omega) HVc.out (by repeat (first | with_reducible exact HVr.out | with_reducible apply Rd.drewN | with_reducible apply Rd.drew | with_reducible apply Rd.alloc)) HI.out.2.1 HI.out.1)).mono ?_
        rintro e w5 ⟨rfl, b⟩
        have Sw5 := Lib.hid b.size
        have HB := Lib.hid (chain0 (w := w) (by repeat (first | with_reducible exact Below.refl _ _ | with_reducible exact HB.out | with_reducible apply Below.drew | with_reducible apply bdN | with_reducible refine Below.alloc ?_ (by first | exact Nat.le_refl _ | (simp; done) | (simp; omega) | (have := HB.out.size; simp at *; omega)) _ | with_reducible refine Below.setCell ?_ (by first | exact Nat.le_refl _ | (simp; done) | (simp; omega) | (have := HB.out.size; simp at *; omega)) _)) b)
        have HV := Lib.hid (Own.below (by repeat (first | with_reducible exact HV.out | with_reducible apply Own.drewN | with_reducible apply Own.drew | with_reducible apply Own.alloc)) b)
        have HVr := Lib.hid (Rd.below (by repeat (first | with_reducible exact HVr.out | with_reducible apply Rd.drewN | with_reducible apply Rd.drew | with_reducible apply Rd.alloc)) b)
        clear b
        cases hcb : capB (allPut (l ++ m))
        · have HT := Lib.hid (show joinR l m = ([], false) by unfold joinR; rw [if_neg (fun h => by have := h.2.2.2; rw [hcb] at this; cases this)])
          go_wp2_with fail
          go_ret2
          exact ⟨_, ret_two (by rw [HT.out]), by rw [HT.out]; exact Own.empty _ _ HB.out.size, by repeat (first | with_reducible exact Below.refl _ _ | with_reducible exact HB.out | with_reducible apply Below.drew | with_reducible apply bdN | with_reducible refine Below.alloc ?_ (by first | exact Nat.le_refl _ | (simp; done) | (simp; omega) | (have := HB.out.size; simp at *; omega)) _ | with_reducible refine Below.setCell ?_ (by first | exact Nat.le_refl _ | (simp; done) | (simp; omega) | (have := HB.out.size; simp at *; omega)) _)⟩
        · have HT := Lib.hid (show joinR l m = (allPut (l ++ m), true) by unfold joinR; rw [if_pos ((HCo.out _).2 ⟨h27, hcb⟩)])
          go_wp2_with fail
          go_ret2
          exact ⟨_, ret_two (by rw [HT.out]), by rw [HT.out]; exact HV.out, HB.out⟩
      · have HSr := Lib.hid (show sortR (l ++ m) = ([], false) by unfold sortR; rw [if_neg (fun h => h27 h.2)])
        have HT := Lib.hid (show joinR l m = ([], false) by unfold joinR; rw [if_neg (fun h => h27 h.2.2.1)])
        rw [HSr.out] at hv ⊢
        clear hv
        go_wp2_with fail
        go_ret2
        exact ⟨_, ret_two (by rw [HT.out]), by rw [HT.out]; exact Own.empty _ _ HB.out.size, by repeat (first | with_reducible exact Below.refl _ _ | with_reducible exact HB.out | with_reducible apply Below.drew | with_reducible apply bdN | with_reducible refine Below.alloc ?_ (by first | exact Nat.le_refl _ | (simp; done) | (simp; omega) | (have := HB.out.size; simp at *; omega)) _ | with_reducible refine Below.setCell ?_ (by first | exact Nat.le_refl _ | (simp; done) | (simp; omega) | (have := HB.out.size; simp at *; omega)) _)⟩

set_option maxRecDepth 100000 in
set_option maxHeartbeats 4000000 in
theorem spec_join (l m : List Cd) (p q : Option Addr) (n cp k cq : Nat) (w : World) (hn : l.length = n) (hm : m.length = k) (hl : n ≤ 1000000000) (hk : k ≤ 1000000000) (hr : Rd w p (flat l)) (hq : Rd w q (flat m)) (hp0 : p = none → cp = 0) :
    Calls Try.prog 43 #[.slice p n cp, .slice q k cq] w fun e w' => ∃ u, e = .returned (.tuple #[u, .bool (joinR l m).2]) ∧ Own w' w.heap.size u (joinR l m).1 ∧ Below w.heap.size w w' := by
  have HN := Lib.hid hn
  have HM := Lib.hid hm
  have HR := Lib.hid hr
  have HQ := Lib.hid hq
  have HQw := Lib.hid hq
  have HP0 := Lib.hid hp0
  clear hn hm hr hq hp0
  go_enter Try.func43, Try.ntmps43
  go_wp2_with fail
  refine ((l2_hand l p n cp _ HN.out hl (by repeat (first | with_reducible exact HR.out | with_reducible apply Rd.drewN | with_reducible apply Rd.drew | with_reducible apply Rd.alloc)))).mono ?_
  rintro e w1 ⟨rfl, b⟩
  have Sw1 := Lib.hid b.size
  have HB := Lib.hid (chain0 (w := w) (by repeat (first | with_reducible exact Below.refl _ _ | with_reducible exact HB.out | with_reducible apply Below.drew | with_reducible apply bdN | with_reducible refine Below.alloc ?_ (by first | exact Nat.le_refl _ | (simp; done) | (simp; omega) | (have := HB.out.size; simp at *; omega)) _ | with_reducible refine Below.setCell ?_ (by first | exact Nat.le_refl _ | (simp; done) | (simp; omega) | (have := HB.out.size; simp at *; omega)) _)) b)
  have HR := Lib.hid (Rd.below (by repeat (first | with_reducible exact HR.out | with_reducible apply Rd.drewN | with_reducible apply Rd.drew | with_reducible apply Rd.alloc)) b)
  have HQ := Lib.hid (Rd.below (by repeat (first | with_reducible exact HQ.out | with_reducible apply Rd.drewN | with_reducible apply Rd.drew | with_reducible apply Rd.alloc)) b)
  clear b
  cases hh : handB l
  · have HT := Lib.hid (show joinR l m = ([], false) by unfold joinR; rw [if_neg (by simp [hh])])
    go_wp2_with fail
    go_ret2
    exact ⟨_, ret_two (by rw [HT.out]), by rw [HT.out]; exact Own.empty _ _ HB.out.size, by repeat (first | with_reducible exact Below.refl _ _ | with_reducible exact HB.out | with_reducible apply Below.drew | with_reducible apply bdN | with_reducible refine Below.alloc ?_ (by first | exact Nat.le_refl _ | (simp; done) | (simp; omega) | (have := HB.out.size; simp at *; omega)) _ | with_reducible refine Below.setCell ?_ (by first | exact Nat.le_refl _ | (simp; done) | (simp; omega) | (have := HB.out.size; simp at *; omega)) _)⟩
  · go_wp2_with fail
    refine ((l2_hand m q k cq _ HM.out hk (by repeat (first | with_reducible exact HQ.out | with_reducible apply Rd.drewN | with_reducible apply Rd.drew | with_reducible apply Rd.alloc)))).mono ?_
    rintro e w2 ⟨rfl, b⟩
    have Sw2 := Lib.hid b.size
    have HB := Lib.hid (chain0 (w := w) (by repeat (first | with_reducible exact Below.refl _ _ | with_reducible exact HB.out | with_reducible apply Below.drew | with_reducible apply bdN | with_reducible refine Below.alloc ?_ (by first | exact Nat.le_refl _ | (simp; done) | (simp; omega) | (have := HB.out.size; simp at *; omega)) _ | with_reducible refine Below.setCell ?_ (by first | exact Nat.le_refl _ | (simp; done) | (simp; omega) | (have := HB.out.size; simp at *; omega)) _)) b)
    have HR := Lib.hid (Rd.below (by repeat (first | with_reducible exact HR.out | with_reducible apply Rd.drewN | with_reducible apply Rd.drew | with_reducible apply Rd.alloc)) b)
    have HQ := Lib.hid (Rd.below (by repeat (first | with_reducible exact HQ.out | with_reducible apply Rd.drewN | with_reducible apply Rd.drew | with_reducible apply Rd.alloc)) b)
    clear b
    cases hg : handB m
    · have HT := Lib.hid (show joinR l m = ([], false) by unfold joinR; rw [if_neg (by simp [hg])])
      go_wp2_with fail
      go_ret2
      exact ⟨_, ret_two (by rw [HT.out]), by rw [HT.out]; exact Own.empty _ _ HB.out.size, by repeat (first | with_reducible exact Below.refl _ _ | with_reducible exact HB.out | with_reducible apply Below.drew | with_reducible apply bdN | with_reducible refine Below.alloc ?_ (by first | exact Nat.le_refl _ | (simp; done) | (simp; omega) | (have := HB.out.size; simp at *; omega)) _ | with_reducible refine Below.setCell ?_ (by first | exact Nat.le_refl _ | (simp; done) | (simp; omega) | (have := HB.out.size; simp at *; omega)) _)⟩
    · have HH := Lib.hid (handB_true.1 hh)
      have HG := Lib.hid (handB_true.1 hg)
      have n27 : n ≤ 27 := by have := HH.out.1; have := HN.out; omega
      have k27 : k ≤ 27 := by have := HG.out.1; have := HM.out; omega
      have HA := Lib.hid (app_ok HH.out.2.1 HG.out.2.1)
      have HI := Lib.hid (allPut_is HA.out)
      go_wp2_with fail
      refine ((l3_cap l p n cp _ HN.out n27 (by repeat (first | with_reducible exact HR.out | with_reducible apply Rd.drewN | with_reducible apply Rd.drew | with_reducible apply Rd.alloc)) HH.out.2.1 HH.out.2.2)).mono ?_
      rintro e w3 ⟨rfl, b⟩
      have Sw3 := Lib.hid b.size
      have HB := Lib.hid (chain0 (w := w) (by repeat (first | with_reducible exact Below.refl _ _ | with_reducible exact HB.out | with_reducible apply Below.drew | with_reducible apply bdN | with_reducible refine Below.alloc ?_ (by first | exact Nat.le_refl _ | (simp; done) | (simp; omega) | (have := HB.out.size; simp at *; omega)) _ | with_reducible refine Below.setCell ?_ (by first | exact Nat.le_refl _ | (simp; done) | (simp; omega) | (have := HB.out.size; simp at *; omega)) _)) b)
      have HR := Lib.hid (Rd.below (by repeat (first | with_reducible exact HR.out | with_reducible apply Rd.drewN | with_reducible apply Rd.drew | with_reducible apply Rd.alloc)) b)
      have HQ := Lib.hid (Rd.below (by repeat (first | with_reducible exact HQ.out | with_reducible apply Rd.drewN | with_reducible apply Rd.drew | with_reducible apply Rd.alloc)) b)
      clear b
      cases hcl : capB l
      · have hc0 := cap_left HH.out.2.2 HH.out.2.1 HG.out.2.1 hcl
        have HT := Lib.hid (show joinR l m = ([], false) by unfold joinR; rw [if_neg (fun h => by have := h.2.2.2; rw [hc0] at this; cases this)])
        clear hc0
        go_wp2_with fail
        go_ret2
        exact ⟨_, ret_two (by rw [HT.out]), by rw [HT.out]; exact Own.empty _ _ HB.out.size, by repeat (first | with_reducible exact Below.refl _ _ | with_reducible exact HB.out | with_reducible apply Below.drew | with_reducible apply bdN | with_reducible refine Below.alloc ?_ (by first | exact Nat.le_refl _ | (simp; done) | (simp; omega) | (have := HB.out.size; simp at *; omega)) _ | with_reducible refine Below.setCell ?_ (by first | exact Nat.le_refl _ | (simp; done) | (simp; omega) | (have := HB.out.size; simp at *; omega)) _)⟩
      · go_wp2_with fail
        refine ((l3_cap m q k cq _ HM.out k27 (by repeat (first | with_reducible exact HQ.out | with_reducible apply Rd.drewN | with_reducible apply Rd.drew | with_reducible apply Rd.alloc)) HG.out.2.1 HG.out.2.2)).mono ?_
        rintro e w4 ⟨rfl, b⟩
        have Sw4 := Lib.hid b.size
        have HB := Lib.hid (chain0 (w := w) (by repeat (first | with_reducible exact Below.refl _ _ | with_reducible exact HB.out | with_reducible apply Below.drew | with_reducible apply bdN | with_reducible refine Below.alloc ?_ (by first | exact Nat.le_refl _ | (simp; done) | (simp; omega) | (have := HB.out.size; simp at *; omega)) _ | with_reducible refine Below.setCell ?_ (by first | exact Nat.le_refl _ | (simp; done) | (simp; omega) | (have := HB.out.size; simp at *; omega)) _)) b)
        have HR := Lib.hid (Rd.below (by repeat (first | with_reducible exact HR.out | with_reducible apply Rd.drewN | with_reducible apply Rd.drew | with_reducible apply Rd.alloc)) b)
        have HQ := Lib.hid (Rd.below (by repeat (first | with_reducible exact HQ.out | with_reducible apply Rd.drewN | with_reducible apply Rd.drew | with_reducible apply Rd.alloc)) b)
        clear b
        cases hcm : capB m
        · have hc0 := cap_right HG.out.2.2 HH.out.2.1 HG.out.2.1 hcm
          have HT := Lib.hid (show joinR l m = ([], false) by unfold joinR; rw [if_neg (fun h => by have := h.2.2.2; rw [hc0] at this; cases this)])
          clear hc0
          go_wp2_with fail
          go_ret2
          exact ⟨_, ret_two (by rw [HT.out]), by rw [HT.out]; exact Own.empty _ _ HB.out.size, by repeat (first | with_reducible exact Below.refl _ _ | with_reducible exact HB.out | with_reducible apply Below.drew | with_reducible apply bdN | with_reducible refine Below.alloc ?_ (by first | exact Nat.le_refl _ | (simp; done) | (simp; omega) | (have := HB.out.size; simp at *; omega)) _ | with_reducible refine Below.setCell ?_ (by first | exact Nat.le_refl _ | (simp; done) | (simp; omega) | (have := HB.out.size; simp at *; omega)) _)⟩
        · have HCo := Lib.hid (show ∀ b : Bool, (handB l = true ∧ handB m = true ∧ (allPut (l ++ m)).length ≤ 27 ∧ b = true) ↔ ((allPut (l ++ m)).length ≤ 27 ∧ b = true) from fun b => ⟨fun h => h.2.2, fun h => ⟨hh, hg, h⟩⟩)
          have HSl := Lib.hid (show allPut (l ++ m.take 0) = l by rw [List.take_zero, List.append_nil]; exact allPut_self HH.out.2.2 HH.out.2.1)
          clear hh hg hcl hcm
          go_wp2_with fail
          refine (l2_own l p n cp _ HN.out (by omega) (by repeat (first | with_reducible exact HR.out | with_reducible apply Rd.drewN | with_reducible apply Rd.drew | with_reducible apply Rd.alloc)) HP0.out).mono ?_
          rintro e w5 ⟨u, rfl, hu, b⟩
          have HZ := Lib.hid HB.out.size
          have Sw5 := Lib.hid b.size
          have HB := Lib.hid (chain0 (w := w) (by repeat (first | with_reducible exact Below.refl _ _ | with_reducible exact HB.out | with_reducible apply Below.drew | with_reducible apply bdN | with_reducible refine Below.alloc ?_ (by first | exact Nat.le_refl _ | (simp; done) | (simp; omega) | (have := HB.out.size; simp at *; omega)) _ | with_reducible refine Below.setCell ?_ (by first | exact Nat.le_refl _ | (simp; done) | (simp; omega) | (have := HB.out.size; simp at *; omega)) _)) b)
          have HQ := Lib.hid (Rd.below (by repeat (first | with_reducible exact HQ.out | with_reducible apply Rd.drewN | with_reducible apply Rd.drew | with_reducible apply Rd.alloc)) b)
          clear b
          have HU := Lib.hid (hu.base HZ.out)
          rw [← HSl.out] at HU
          clear hu
          go_wp2_with fail
          go_loopw [6, 7] (fun o i wr => ∃ j : Nat, j ≤ k ∧ i = .int .i64 j ∧ Hid (OwnN wr w.heap.size o (allPut (l ++ m.take j))) ∧ Hid (Below w.heap.size w wr)) (fun _ i _ => k - (intOf i).toNat)
          case atStart => exact ⟨0, Nat.zero_le _, rfl, HU, HB⟩
          case round =>
            clear HB HU HQ
            obtain ⟨j, hj, rfl, HU, HB⟩ := hrel
            have HTk := Lib.hid (app_ok HH.out.2.1 (take_ok HG.out.2.1 j))
            have HIj := Lib.hid (allPut_is HTk.out)
            have HLj := Lib.hid (allPut_le HTk.out)
            obtain ⟨g, c, rfl, hc, hro⟩ := HU.out.form
            have HRo := Lib.hid hro
            clear hro
            by_cases hlt : j < k
            · obtain ⟨b, o, x, rfl, hb, hx, c0, c1, c2, c3⟩ := (HQw.out.below HB.out).card (k := j) (by rw [HM.out]; exact hlt)
              have HX := Lib.hid (ok_at HG.out.2.1 hx)
              have HE := Lib.hid (allPut_app (g := l) hx)
              have m0 : (0 : Int) ≤ (j : Int) := by omega
              have m1 : (j : Int) < (k : Int) := by omega
              clear hx
              go_wp2_with fail
              refine (l2_put (allPut (l ++ m.take j)) x g 0 _ c _ rfl (by have := HLj.out; omega) hc HRo.out HIj.out.2.1 HX.out HIj.out.1).mono ?_
              rintro e w6 ⟨u, rfl, hu, b⟩
              have HZ := Lib.hid HB.out.size
              have Sw6 := Lib.hid b.size
              have HB := Lib.hid (chain0 (w := w) (by repeat (first | with_reducible exact Below.refl _ _ | with_reducible exact HB.out | with_reducible apply Below.drew | with_reducible apply bdN | with_reducible refine Below.alloc ?_ (by first | exact Nat.le_refl _ | (simp; done) | (simp; omega) | (have := HB.out.size; simp at *; omega)) _ | with_reducible refine Below.setCell ?_ (by first | exact Nat.le_refl _ | (simp; done) | (simp; omega) | (have := HB.out.size; simp at *; omega)) _)) b)
              clear b
              have HV := Lib.hid (hu.base HZ.out)
              clear hu
              rw [← HE.out] at HV
              go_wp2_with fail
              go_roundw
              case rel => exact ⟨j + 1, by omega, by go_num, HV, HB⟩
              case measure => simp [intOf]; omega
            · obtain rfl : j = k := by omega
              have HEk := Lib.hid (show m.take j = m by rw [← HM.out, List.take_length])
              rw [HEk.out] at HU HRo HIj HLj hc
              rw [HEk.out]
              by_cases h27 : (allPut (l ++ m)).length ≤ 27
              · have hd : ¬ (27 : Int) < ((allPut (l ++ m)).length : Int) := by omega
                have hd2 : decide ((27 : Int) < ((allPut (l ++ m)).length : Int)) = false := decide_eq_false hd
                go_wp2_with fail
                refine ((l3_cap (allPut (l ++ m)) (some ⟨g, 0, none⟩) (allPut (l ++ m)).length c _ rfl h27 HRo.out HIj.out.2.1 HIj.out.1)).mono ?_
                rintro e w6 ⟨rfl, b⟩
                have Sw6 := Lib.hid b.size
                have HB := Lib.hid (chain0 (w := w) (by repeat (first | with_reducible exact Below.refl _ _ | with_reducible exact HB.out | with_reducible apply Below.drew | with_reducible apply bdN | with_reducible refine Below.alloc ?_ (by first | exact Nat.le_refl _ | (simp; done) | (simp; omega) | (have := HB.out.size; simp at *; omega)) _ | with_reducible refine Below.setCell ?_ (by first | exact Nat.le_refl _ | (simp; done) | (simp; omega) | (have := HB.out.size; simp at *; omega)) _)) b)
                have HU := Lib.hid (OwnN.below (by repeat (first | with_reducible exact HU.out | with_reducible apply OwnN.drewN | with_reducible apply OwnN.drew | with_reducible apply OwnN.alloc)) b)
                clear b
                cases hcb : capB (allPut (l ++ m))
                · have HT := Lib.hid (show joinR l m = ([], false) by unfold joinR; rw [if_neg (fun h => by have := h.2.2.2; rw [hcb] at this; cases this)])
                  go_wp2_with fail
                  go_ret2
                  exact ⟨_, ret_two (by rw [HT.out]), by rw [HT.out]; exact Own.empty _ _ HB.out.size, by repeat (first | with_reducible exact Below.refl _ _ | with_reducible exact HB.out | with_reducible apply Below.drew | with_reducible apply bdN | with_reducible refine Below.alloc ?_ (by first | exact Nat.le_refl _ | (simp; done) | (simp; omega) | (have := HB.out.size; simp at *; omega)) _ | with_reducible refine Below.setCell ?_ (by first | exact Nat.le_refl _ | (simp; done) | (simp; omega) | (have := HB.out.size; simp at *; omega)) _)⟩
                · have HT := Lib.hid (show joinR l m = (allPut (l ++ m), true) by unfold joinR; rw [if_pos ((HCo.out _).2 ⟨h27, hcb⟩)])
                  go_wp2_with fail
                  go_ret2
                  exact ⟨_, ret_two (by rw [HT.out]), by rw [HT.out]; exact HU.out.own, HB.out⟩
              · have HT := Lib.hid (show joinR l m = ([], false) by unfold joinR; rw [if_neg (fun h => h27 h.2.2.1)])
                have hd : (27 : Int) < ((allPut (l ++ m)).length : Int) := by omega
                go_wp2_with fail
                go_ret2
                exact ⟨_, ret_two (by rw [HT.out]), by rw [HT.out]; exact Own.empty _ _ HB.out.size, by repeat (first | with_reducible exact Below.refl _ _ | with_reducible exact HB.out | with_reducible apply Below.drew | with_reducible apply bdN | with_reducible refine Below.alloc ?_ (by first | exact Nat.le_refl _ | (simp; done) | (simp; omega) | (have := HB.out.size; simp at *; omega)) _ | with_reducible refine Below.setCell ?_ (by first | exact Nat.le_refl _ | (simp; done) | (simp; omega) | (have := HB.out.size; simp at *; omega)) _)⟩

theorem impl_join2 (l m : List Cd) (p q : Option Addr) (n cp k cq : Nat) (w : World) (hn : l.length = n) (hm : m.length = k) (hl : n ≤ 1000000000) (hk : k ≤ 1000000000) (hr : Rd w p (flat l)) (hq : Rd w q (flat m)) (hp : n ≤ cp ∧ ∃ b o, p = some ⟨b, o, none⟩) (hq0 : k ≤ cq ∧ ∃ b o, q = some ⟨b, o, none⟩) :
    Calls Try.prog 44 #[.slice p n cp, .slice q k cq] w fun e w' => ∃ u, e = .returned (.tuple #[u, .bool (joinR l m).2]) ∧ Own w' w.heap.size u (joinR l m).1 ∧ Below w.heap.size w w' := by
  obtain ⟨_, b, o, rfl⟩ := hp
  obtain ⟨_, b2, o2, rfl⟩ := hq0
  exact impl_join l m _ _ n cp k cq w hn hm hl hk hr hq (fun h => by cases h) (fun h => by cases h)
theorem spec_join2 (l m : List Cd) (p q : Option Addr) (n cp k cq : Nat) (w : World) (hn : l.length = n) (hm : m.length = k) (hl : n ≤ 1000000000) (hk : k ≤ 1000000000) (hr : Rd w p (flat l)) (hq : Rd w q (flat m)) (hp : n ≤ cp ∧ ∃ b o, p = some ⟨b, o, none⟩) (hq0 : k ≤ cq ∧ ∃ b o, q = some ⟨b, o, none⟩) :
    Calls Try.prog 43 #[.slice p n cp, .slice q k cq] w fun e w' => ∃ u, e = .returned (.tuple #[u, .bool (joinR l m).2]) ∧ Own w' w.heap.size u (joinR l m).1 ∧ Below w.heap.size w w' := by
  obtain ⟨_, b, o, rfl⟩ := hp
  exact spec_join l m _ q n cp k cq w hn hm hl hk hr hq (fun h => by cases h)
theorem mark_handK (l : List Cd) (v : Value) (B k0 k1 n : Nat) (w : World) (hn : l.length = n) (hk : k0 + 4 * n = k1) (hl : k1 ≤ 1000000000) (hB : B ≤ w.heap.size) (ho : Own w B v l) :
    Calls Try.prog 23 #[v, .int .i64 k0] w fun e w' => e = .returned (.int .i64 k1) ∧ Own w' B v (marked k0 n) ∧ w.grownBy w' v.ownBlock := by
  subst hk
  exact mark_hand l v B k0 n w hn hl hB ho
end Go.Proofs.Ytbimbaogjknboaa.cards
