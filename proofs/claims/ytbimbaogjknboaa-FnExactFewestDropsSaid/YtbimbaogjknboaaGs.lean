/- GreedyCap: the model. -/
import Derived.Test.YtbimbaogjknboaaGr
import Derived.Deep.RegionHeld3
namespace Go.Proofs.Ytbimbaogjknboaa.cards
open Go.RowKit
set_option linter.unusedVariables false

set_option maxRecDepth 100000 in
set_option maxHeartbeats 4000000 in
theorem l3_picked (l : List Cd) (ps : List Int) (p q : Option Addr) (n cp m cq : Nat) (w : World) (hn : l.length = n) (hl : n ≤ 1000) (hm : ps.length = m) (hml : m ≤ 1000) (hr : Rd w p (flat l)) (hq : Rd w q (ints ps)) (hin : ∀ i ∈ ps, 0 ≤ i ∧ i < l.length) :
    Calls Try.prog 70 #[.slice p n cp, .slice q m cq] w fun e w' => ∃ u, e = .returned u ∧ Own w' w.heap.size u (pick l ps) ∧ Below w.heap.size w w' := by
  have HN := Lib.hid hn
  have HM := Lib.hid hm
  have HR0 := Lib.hid hr
  have HQ0 := Lib.hid hq
  have HI := Lib.hid hin
  clear hn hm hr hq hin
  go_enter Try.func70, Try.ntmps70
  go_wp2_with fail
  go_loopw [5, 6] (fun o i wr => ∃ k : Nat, k ≤ m ∧ i = .int .i64 k ∧ Hid (Own wr w.heap.size o (pick l (ps.take k))) ∧ Hid (Below w.heap.size w wr)) (fun _ i _ => m - (intOf i).toNat)
  case atStart => exact ⟨0, Nat.zero_le _, rfl, Lib.hid (Own.empty w w.heap.size (Nat.le_refl _)), Lib.hid (by repeat (first | with_reducible exact Below.refl _ _ | with_reducible exact HB.out | with_reducible apply Below.drew | with_reducible apply bdN | with_reducible refine Below.alloc ?_ (by first | exact Nat.le_refl _ | (simp; done) | (simp; omega) | (have := HB.out.size; simp at *; omega)) _ | with_reducible refine Below.setCell ?_ (by first | exact Nat.le_refl _ | (simp; done) | (simp; omega) | (have := HB.out.size; simp at *; omega)) _))⟩
  case round =>
    obtain ⟨k, hk, rfl, HO, HB⟩ := hrel
    by_cases hlt : k < m
    · have HR := Lib.hid (HR0.out.below HB.out)
      obtain ⟨b2, o2, pi, rfl, hb2, hpi, d0⟩ := (HQ0.out.below HB.out).int (k := k) (by rw [HM.out]; exact hlt)
      obtain ⟨i0, i1⟩ := HI.out pi (List.mem_of_getElem? hpi)
      obtain ⟨j, rfl⟩ : ∃ j : Nat, pi = (j : Int) := ⟨pi.toNat, by omega⟩
      have hjn : j < n := by have := HN.out; omega
      obtain ⟨b, o, x, rfl, hb, hx, c0, c1, c2, c3⟩ := HR.out.card (k := j) (by rw [HN.out]; exact hjn)
      have HE := Lib.hid (pick_take_snoc (l := l) hpi (by simpa using hx))
      have HL := Lib.hid (Nat.le_trans (pick_len l (ps.take k)) (by rw [List.length_take]; exact Nat.min_le_left _ _))
      have m0 : (0 : Int) ≤ (k : Int) := by omega
      have m1 : (k : Int) < (m : Int) := by omega
      have m2 : (0 : Int) ≤ (j : Int) := by omega
      have m3 : (j : Int) < (n : Int) := by omega
      clear hpi hx i0 i1
      go_wp2_with (at_builtin; refine append_cd rfl (.tmp 14) (.tmp 22) rfl w.heap.size _ (pick l (ps.take k)) x _ _ rfl rfl rfl HO.out (by have := HL.out; omega) HB.out.size ?_; intro v1 w4 hO1 hB1)
      rw [← HE.out] at hO1
      go_roundw
      case rel => exact ⟨k + 1, by omega, by go_num, hO1, HB.out.trans hB1⟩
      case measure => simp [intOf]; omega
    · obtain rfl : k = m := by omega
      have HE := Lib.hid (show ps.take k = ps by rw [← HM.out, List.take_length])
      go_wp2_with fail
      go_ret
      exact ⟨_, rfl, by rw [HE.out] at HO; exact HO.out, HB.out⟩

set_option maxRecDepth 100000 in
set_option maxHeartbeats 4000000 in
theorem spec_greedy (l : List Cd) (p : Option Addr) (n cp : Nat) (w : World) (hn : l.length = n) (hl : n ≤ 1000000000) (hr : Rd w p (flat l)) :
    Calls Try.prog 33 #[.slice p n cp] w fun e w' => ∃ u, e = .returned (.tuple #[u, .bool (greedyR l).2]) ∧ OwnI w' w.heap.size u (greedyR l).1 ∧ Below w.heap.size w w' := by
  have HN := Lib.hid hn
  have HR := Lib.hid hr
  have HR0 := Lib.hid hr
  have HO := Lib.hid (OwnI.empty w w.heap.size (Nat.le_refl _))
  clear hn hr
  go_enter Try.func33, Try.ntmps33
  go_wp2_with fail
  refine ((l2_hand l p n cp _ HN.out hl (by repeat (first | with_reducible exact HR.out | with_reducible apply Rd.drewN | with_reducible apply Rd.drew | with_reducible apply Rd.alloc)))).mono ?_
  rintro e w1 ⟨rfl, b⟩
  have Sw1 := Lib.hid b.size
  have HB := Lib.hid (chain0 (w := w) (by repeat (first | with_reducible exact Below.refl _ _ | with_reducible exact HB.out | with_reducible apply Below.drew | with_reducible apply bdN | with_reducible refine Below.alloc ?_ (by first | exact Nat.le_refl _ | (simp; done) | (simp; omega) | (have := HB.out.size; simp at *; omega)) _ | with_reducible refine Below.setCell ?_ (by first | exact Nat.le_refl _ | (simp; done) | (simp; omega) | (have := HB.out.size; simp at *; omega)) _)) b)
  have HR := Lib.hid (Rd.below (by repeat (first | with_reducible exact HR.out | with_reducible apply Rd.drewN | with_reducible apply Rd.drew | with_reducible apply Rd.alloc)) b)
  have HO := Lib.hid (OwnI.below (by repeat (first | with_reducible exact HO.out | with_reducible apply OwnI.drewN | with_reducible apply OwnI.drew | with_reducible apply OwnI.alloc)) b)
  clear b
  cases hh : handB l
  · have HT := Lib.hid (show greedyR l = ([], false) by unfold greedyR; rw [if_neg (by simp [hh])])
    go_wp2_with fail
    go_ret2
    exact ⟨_, ret_two (by rw [HT.out]), by rw [HT.out]; exact HO.out, by repeat (first | with_reducible exact Below.refl _ _ | with_reducible exact HB.out | with_reducible apply Below.drew | with_reducible apply bdN | with_reducible refine Below.alloc ?_ (by first | exact Nat.le_refl _ | (simp; done) | (simp; omega) | (have := HB.out.size; simp at *; omega)) _ | with_reducible refine Below.setCell ?_ (by first | exact Nat.le_refl _ | (simp; done) | (simp; omega) | (have := HB.out.size; simp at *; omega)) _)⟩
  · have HT := Lib.hid (show greedyR l = (gr l n, true) by unfold greedyR; rw [if_pos hh, HN.out])
    have HH := Lib.hid (handB_true.1 hh)
    have HS := Lib.hid HH.out.2.2
    have HK := Lib.hid HH.out.2.1
    have h27 : n ≤ 27 := by have := HH.out.1; have := HN.out; omega
    clear hh
    go_wp2_with fail
    go_loopw [4, 5] (fun o i wr => ∃ k : Nat, k ≤ n ∧ i = .int .i64 k ∧ Hid (OwnI wr w.heap.size o (gr l k)) ∧ Hid (Below w.heap.size w wr)) (fun _ i _ => n - (intOf i).toNat)
    case atStart => exact ⟨0, Nat.zero_le _, rfl, HO, HB⟩
    case round =>
      clear HB HR HO
      obtain ⟨k, hk, rfl, HO, HB⟩ := hrel
      by_cases hlt : k < n
      · have HR := Lib.hid (HR0.out.below HB.out)
        obtain ⟨b, o, x, rfl, hb, hx, c0, c1, c2, c3⟩ := HR.out.card (k := k) (by rw [HN.out]; exact hlt)
        have HXa := Lib.hid hx
        have HX := Lib.hid (ok_at HK.out hx)
        have m0 : (0 : Int) ≤ (k : Int) := by omega
        have m1 : (k : Int) < (n : Int) := by omega
        have HG := Lib.hid (gr_len l k (by rw [HN.out]; exact hk))
        have HGi := Lib.hid (gr_in l k (by rw [HN.out]; exact hk))
        have HTl := Lib.hid (tk_len (l := l) (k := k) (by rw [HN.out]; exact hk))
        have HTh := fun (p2 : Option Addr) (c2' : Nat) (w' : World) (hr : Rd w' p2 (flat (tk l k))) => l2_through (tk l k) x p2 (tk l k).length c2' w' rfl (by have := HTl.out; omega) hr (tk_ok HK.out (by rw [HN.out]; exact hk)) HX.out (tk_sorted HS.out (by rw [HN.out]; exact hk))
        obtain ⟨p1, c1', rfl, _, r1, _⟩ := HO.out.form
        have RP := Lib.hid r1
        obtain ⟨v, hv⟩ : ∃ v, thr (tk l k) x (tk l k).length = v := ⟨_, rfl⟩
        have HV := Lib.hid hv
        rw [hv] at HTh
        have HT2 := Lib.hid HTh
        clear hv HTh hx r1
        by_cases hv0 : v = 0
        · subst hv0
          have HE := Lib.hid (gr_yes HXa.out HV.out)
          go_wp2_with fail
          go_region_held3 (fun w' => w'.cell? ⟨b, o + k * 4, none⟩ = some (.int .i64 x.a) ∧ w'.cell? ⟨b, o + k * 4 + 1, none⟩ = some (.int .i64 x.b) ∧ w'.cell? ⟨b, o + k * 4 + 2, none⟩ = some (.int .i64 x.c) ∧ w'.cell? ⟨b, o + k * 4 + 3, none⟩ = some (.int .i64 x.d)) (first | exact ⟨c0, c1, c2, c3⟩ | exact (HR.out.at_ HXa.out)) (first
            | (go_at_call 70; refine (l3_picked l (gr l k) _ p1 n cp _ c1' _ HN.out (by omega) rfl (by have := HG.out; omega) (by repeat (first | with_reducible exact HR.out | with_reducible apply Rd.drewN | with_reducible apply Rd.drew | with_reducible apply Rd.alloc)) (by repeat (first | with_reducible exact RP.out | with_reducible apply Rd.drewN | with_reducible apply Rd.drew | with_reducible apply Rd.alloc)) HGi.out).mono ?_; rintro e wq ⟨u, rfl, hu, b⟩; obtain ⟨p2, c2', rfl, _, r2, _⟩ := hu.form; have HB := Lib.hid (chain0 (w := w) (by repeat (first | with_reducible exact Below.refl _ _ | with_reducible exact HB.out | with_reducible apply Below.drew | with_reducible apply bdN | with_reducible refine Below.alloc ?_ (by first | exact Nat.le_refl _ | (simp; done) | (simp; omega) | (have := HB.out.size; simp at *; omega)) _ | with_reducible refine Below.setCell ?_ (by first | exact Nat.le_refl _ | (simp; done) | (simp; omega) | (have := HB.out.size; simp at *; omega)) _)) b); have HR := Lib.hid (Rd.below (by repeat (first | with_reducible exact HR.out | with_reducible apply Rd.drewN | with_reducible apply Rd.drew | with_reducible apply Rd.alloc)) b); have RP := Lib.hid (Rd.below (by repeat (first | with_reducible exact RP.out | with_reducible apply Rd.drewN | with_reducible apply Rd.drew | with_reducible apply Rd.alloc)) b); have HO := Lib.hid (OwnI.below (by repeat (first | with_reducible exact HO.out | with_reducible apply OwnI.drewN | with_reducible apply OwnI.drew | with_reducible apply OwnI.alloc)) b); have R2 : Hid (Rd wq p2 (flat (tk l k))) := Lib.hid r2; clear b r2 hu)
            | (go_at_call 69; refine (HT2.out p2 c2' _ (by repeat (first | with_reducible exact R2.out | with_reducible apply Rd.drewN | with_reducible apply Rd.drew | with_reducible apply Rd.alloc))).mono ?_; rintro e wq ⟨rfl, b⟩; have HB := Lib.hid (chain0 (w := w) (by repeat (first | with_reducible exact Below.refl _ _ | with_reducible exact HB.out | with_reducible apply Below.drew | with_reducible apply bdN | with_reducible refine Below.alloc ?_ (by first | exact Nat.le_refl _ | (simp; done) | (simp; omega) | (have := HB.out.size; simp at *; omega)) _ | with_reducible refine Below.setCell ?_ (by first | exact Nat.le_refl _ | (simp; done) | (simp; omega) | (have := HB.out.size; simp at *; omega)) _)) b); have HR := Lib.hid (Rd.below (by repeat (first | with_reducible exact HR.out | with_reducible apply Rd.drewN | with_reducible apply Rd.drew | with_reducible apply Rd.alloc)) b); have RP := Lib.hid (Rd.below (by repeat (first | with_reducible exact RP.out | with_reducible apply Rd.drewN | with_reducible apply Rd.drew | with_reducible apply Rd.alloc)) b); have HO := Lib.hid (OwnI.below (by repeat (first | with_reducible exact HO.out | with_reducible apply OwnI.drewN | with_reducible apply OwnI.drew | with_reducible apply OwnI.alloc)) b); clear b))
          all_goals
            go_wp2_with (at_builtin; refine append_int rfl (.tmp 26) (.tmp 28) rfl w.heap.size (.slice p1 (gr l k).length c1') (gr l k) (k : Int) _ _ rfl rfl rfl (by repeat (first | with_reducible exact HO.out | with_reducible apply OwnI.drewN | with_reducible apply OwnI.drew)) (by have := HG.out; omega) HB.out.size ?_; intro v1 w5 hO1 hB1)
            rw [← HE.out] at hO1
            go_roundw
            case rel => exact ⟨k + 1, by omega, by go_num, hO1, Below.trans (by repeat (first | with_reducible exact Below.refl _ _ | with_reducible exact HB.out | with_reducible apply Below.drew | with_reducible apply bdN | with_reducible refine Below.alloc ?_ (by first | exact Nat.le_refl _ | (simp; done) | (simp; omega) | (have := HB.out.size; simp at *; omega)) _ | with_reducible refine Below.setCell ?_ (by first | exact Nat.le_refl _ | (simp; done) | (simp; omega) | (have := HB.out.size; simp at *; omega)) _)) hB1⟩
            case measure => simp [intOf]; omega
        · have hv1 : (v == 0) = false := by simp; exact hv0
          have HE := Lib.hid (gr_no HXa.out (by rw [HV.out]; exact hv0))
          go_wp2_with fail
          go_region_held3 (fun w' => w'.cell? ⟨b, o + k * 4, none⟩ = some (.int .i64 x.a) ∧ w'.cell? ⟨b, o + k * 4 + 1, none⟩ = some (.int .i64 x.b) ∧ w'.cell? ⟨b, o + k * 4 + 2, none⟩ = some (.int .i64 x.c) ∧ w'.cell? ⟨b, o + k * 4 + 3, none⟩ = some (.int .i64 x.d)) (first | exact ⟨c0, c1, c2, c3⟩ | exact (HR.out.at_ HXa.out)) (first
            | (go_at_call 70; refine (l3_picked l (gr l k) _ p1 n cp _ c1' _ HN.out (by omega) rfl (by have := HG.out; omega) (by repeat (first | with_reducible exact HR.out | with_reducible apply Rd.drewN | with_reducible apply Rd.drew | with_reducible apply Rd.alloc)) (by repeat (first | with_reducible exact RP.out | with_reducible apply Rd.drewN | with_reducible apply Rd.drew | with_reducible apply Rd.alloc)) HGi.out).mono ?_; rintro e wq ⟨u, rfl, hu, b⟩; obtain ⟨p2, c2', rfl, _, r2, _⟩ := hu.form; have HB := Lib.hid (chain0 (w := w) (by repeat (first | with_reducible exact Below.refl _ _ | with_reducible exact HB.out | with_reducible apply Below.drew | with_reducible apply bdN | with_reducible refine Below.alloc ?_ (by first | exact Nat.le_refl _ | (simp; done) | (simp; omega) | (have := HB.out.size; simp at *; omega)) _ | with_reducible refine Below.setCell ?_ (by first | exact Nat.le_refl _ | (simp; done) | (simp; omega) | (have := HB.out.size; simp at *; omega)) _)) b); have HR := Lib.hid (Rd.below (by repeat (first | with_reducible exact HR.out | with_reducible apply Rd.drewN | with_reducible apply Rd.drew | with_reducible apply Rd.alloc)) b); have RP := Lib.hid (Rd.below (by repeat (first | with_reducible exact RP.out | with_reducible apply Rd.drewN | with_reducible apply Rd.drew | with_reducible apply Rd.alloc)) b); have HO := Lib.hid (OwnI.below (by repeat (first | with_reducible exact HO.out | with_reducible apply OwnI.drewN | with_reducible apply OwnI.drew | with_reducible apply OwnI.alloc)) b); have R2 : Hid (Rd wq p2 (flat (tk l k))) := Lib.hid r2; clear b r2 hu)
            | (go_at_call 69; refine (HT2.out p2 c2' _ (by repeat (first | with_reducible exact R2.out | with_reducible apply Rd.drewN | with_reducible apply Rd.drew | with_reducible apply Rd.alloc))).mono ?_; rintro e wq ⟨rfl, b⟩; have HB := Lib.hid (chain0 (w := w) (by repeat (first | with_reducible exact Below.refl _ _ | with_reducible exact HB.out | with_reducible apply Below.drew | with_reducible apply bdN | with_reducible refine Below.alloc ?_ (by first | exact Nat.le_refl _ | (simp; done) | (simp; omega) | (have := HB.out.size; simp at *; omega)) _ | with_reducible refine Below.setCell ?_ (by first | exact Nat.le_refl _ | (simp; done) | (simp; omega) | (have := HB.out.size; simp at *; omega)) _)) b); have HR := Lib.hid (Rd.below (by repeat (first | with_reducible exact HR.out | with_reducible apply Rd.drewN | with_reducible apply Rd.drew | with_reducible apply Rd.alloc)) b); have RP := Lib.hid (Rd.below (by repeat (first | with_reducible exact RP.out | with_reducible apply Rd.drewN | with_reducible apply Rd.drew | with_reducible apply Rd.alloc)) b); have HO := Lib.hid (OwnI.below (by repeat (first | with_reducible exact HO.out | with_reducible apply OwnI.drewN | with_reducible apply OwnI.drew | with_reducible apply OwnI.alloc)) b); clear b))
          all_goals
            go_wp2_with fail
            go_roundw
            case rel => exact ⟨k + 1, by omega, by go_num, by rw [HE.out]; exact Lib.hid (by repeat (first | with_reducible exact HO.out | with_reducible apply OwnI.drewN | with_reducible apply OwnI.drew)), Lib.hid (by repeat (first | with_reducible exact Below.refl _ _ | with_reducible exact HB.out | with_reducible apply Below.drew | with_reducible apply bdN | with_reducible refine Below.alloc ?_ (by first | exact Nat.le_refl _ | (simp; done) | (simp; omega) | (have := HB.out.size; simp at *; omega)) _ | with_reducible refine Below.setCell ?_ (by first | exact Nat.le_refl _ | (simp; done) | (simp; omega) | (have := HB.out.size; simp at *; omega)) _))⟩
            case measure => simp [intOf]; omega
      · obtain rfl : k = n := by omega
        go_wp2_with fail
        go_ret2
        exact ⟨_, ret_two (by rw [HT.out]), by rw [HT.out]; exact HO.out, HB.out⟩
end Go.Proofs.Ytbimbaogjknboaa.cards
