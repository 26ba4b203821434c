/- GreedyCap: the program and the model alike. -/
import Derived.Test.YtbimbaogjknboaaGm
import Derived.Test.YtbimbaogjknboaaAt
import Derived.Test.YtbimbaogjknboaaPw
import Derived.Test.YtbimbaogjknboaaNo
namespace Go.Proofs.Ytbimbaogjknboaa.cards
open Go.RowKit
set_option linter.unusedVariables false

noncomputable def greedyR (l : List Cd) : List Int × Bool := if handB l = true then (gr l l.length, true) else ([], false)
theorem greedyR_len (l : List Cd) : (greedyR l).1.length ≤ 1000 := by
  unfold greedyR
  split
  · rename_i h
    have h1 := (handB_true.1 h).1
    have h2 := gr_len l l.length (Nat.le_refl _)
    show (gr l l.length).length ≤ _
    omega
  · simp
theorem thr_zero {l : List Cd} {c : Cd} {n : Nat} (h : ¬ 0 < thr l c n) : thr l c n = 0 := by have := (thr_bd l c n).1; omega

set_option maxRecDepth 100000 in
set_option maxHeartbeats 4000000 in
theorem impl_greedy (l : List Cd) (p : Option Addr) (n cp : Nat) (w : World) (hn : l.length = n) (hl : n ≤ 1000000000) (hr : Rd w p (flat l)) :
    Calls Try.prog 34 #[.slice p n cp] w fun e w' => ∃ u, e = .returned (.tuple #[u, .bool (greedyR l).2]) ∧ OwnI w' w.heap.size u (greedyR l).1 ∧ Below w.heap.size w w' := by
  have HN := Lib.hid hn
  have HR := Lib.hid hr
  have HR0 := Lib.hid hr
  clear hn hr
  go_enter Try.func34, Try.ntmps34
  go_wp2_with fail
  refine ((is_hand l p n cp _ HN.out hl (by repeat (first | with_reducible exact HR.out | with_reducible apply Rd.drewN | with_reducible apply Rd.drew | with_reducible apply Rd.alloc)))).mono ?_
  rintro e w1 ⟨rfl, b⟩
  have Sw1 := Lib.hid b.size
  have HB := Lib.hid (chain0 (w := w) (by repeat (first | with_reducible exact Below.refl _ _ | with_reducible exact HB.out | with_reducible apply Below.drew | with_reducible apply bdN | with_reducible refine Below.alloc ?_ (by first | exact Nat.le_refl _ | (simp; done) | (simp; omega) | (have := HB.out.size; simp at *; omega)) _ | with_reducible refine Below.setCell ?_ (by first | exact Nat.le_refl _ | (simp; done) | (simp; omega) | (have := HB.out.size; simp at *; omega)) _)) b)
  have HR := Lib.hid (Rd.below (by repeat (first | with_reducible exact HR.out | with_reducible apply Rd.drewN | with_reducible apply Rd.drew | with_reducible apply Rd.alloc)) b)
  clear b
  cases hh : handB l
  · have HT := Lib.hid (show greedyR l = ([], false) by unfold greedyR; rw [if_neg (by simp [hh])])
    go_wp2_with fail
    go_ret2
    exact ⟨_, ret_two (by rw [HT.out]), by rw [HT.out]; exact OwnI.empty _ _ HB.out.size, by repeat (first | with_reducible exact Below.refl _ _ | with_reducible exact HB.out | with_reducible apply Below.drew | with_reducible apply bdN | with_reducible refine Below.alloc ?_ (by first | exact Nat.le_refl _ | (simp; done) | (simp; omega) | (have := HB.out.size; simp at *; omega)) _ | with_reducible refine Below.setCell ?_ (by first | exact Nat.le_refl _ | (simp; done) | (simp; omega) | (have := HB.out.size; simp at *; omega)) _)⟩
  · have HT := Lib.hid (show greedyR l = (gr l n, true) by unfold greedyR; rw [if_pos hh, HN.out])
    have HH := Lib.hid (handB_true.1 hh)
    have HS := Lib.hid HH.out.2.2
    have HK := Lib.hid HH.out.2.1
    have h27 : n ≤ 27 := by have := HH.out.1; have := HN.out; omega
    have hz1 : (w1.alloc (.cells #[] 3)).heap.size = w1.heap.size + 1 := by simp
    have HO1 := Lib.hid ((OwnI.empty w1 w.heap.size HB.out.size).alloc (.cells #[] 41))
    have ho2 := Own.empty (w1.alloc (.cells #[] 3)) w.heap.size (by have := HB.out.size; omega)
    rw [hz1] at ho2
    have HO2 := Lib.hid ho2
    clear hh ho2 hz1
    go_wp2_with fail
    go_loopw [4, 5, 6, 7, 16] (fun o1 o2 _ _ i wr => ∃ k : Nat, k ≤ n ∧ i = .int .i64 k ∧ Hid (OwnI wr w.heap.size o1 (gr l k)) ∧ Hid (Own wr w.heap.size o2 (tk l k)) ∧ Hid (Ap o1 o2) ∧ Hid (Below w.heap.size w wr)) (fun _ _ _ _ i _ => n - (intOf i).toNat)
    case atStart => exact ⟨0, Nat.zero_le _, rfl, HO1, HO2, Lib.hid (fun g h1 h2 => by simp [Value.ownBlock] at h1 h2; omega), Lib.hid (by repeat (first | with_reducible exact Below.refl _ _ | with_reducible exact HB.out | with_reducible apply Below.drew | with_reducible apply bdN | with_reducible refine Below.alloc ?_ (by first | exact Nat.le_refl _ | (simp; done) | (simp; omega) | (have := HB.out.size; simp at *; omega)) _ | with_reducible refine Below.setCell ?_ (by first | exact Nat.le_refl _ | (simp; done) | (simp; omega) | (have := HB.out.size; simp at *; omega)) _))⟩
    case round =>
      clear HB HR HO1 HO2
      obtain ⟨k, hk, rfl, HO1, HO2, HA, HB⟩ := hrel
      by_cases hlt : k < n
      · have HR := Lib.hid (HR0.out.below HB.out)
        obtain ⟨b, o, x, rfl, hb, hx, c0, c1, c2, c3⟩ := HR.out.card (k := k) (by rw [HN.out]; exact hlt)
        have HXa := Lib.hid hx
        have HX := Lib.hid (ok_at HK.out hx)
        have m0 : (0 : Int) ≤ (k : Int) := by omega
        have m1 : (k : Int) < (n : Int) := by omega
        obtain ⟨p2, c2', rfl, _, RT, _⟩ := HO2.out.form
        have hm27 := tk_len (l := l) (k := k) (by rw [HN.out]; exact hk)
        obtain ⟨t, ht⟩ : ∃ t, decide (0 < thr (tk l k) x (tk l k).length) = t := ⟨_, rfl⟩
        have HTT := Lib.hid ht
        have HG := Lib.hid (gr_len l k (by rw [HN.out]; exact hk))
        have HP := fun w' (hr : Rd w' p2 (flat (tk l k))) => makes_line (tk l k) x p2 (tk l k).length c2' w' rfl (by omega) hr (tk_ok HK.out (by rw [HN.out]; exact hk)) HX.out (tk_sorted HS.out (by rw [HN.out]; exact hk))
        rw [ht] at HP
        have HP3 := Lib.hid HP
        clear hx ht HP
        have HL1 := Lib.hid HO1.out.lt
        have HL2 := Lib.hid HO2.out.lt
        obtain ⟨p1, c1', rfl, _, _, _⟩ := HO1.out.form
        obtain ⟨m1, hm1⟩ : ∃ m1, (gr l k).length = m1 := ⟨_, rfl⟩
        rw [hm1] at HO1 HA HL1
        rw [hm1]
        clear hm1
        obtain ⟨m, hm⟩ : ∃ m, (tk l k).length = m := ⟨_, rfl⟩
        have HM := Lib.hid hm
        rw [hm] at HO2 HP3 HA HL2 hm27
        rw [hm]
        clear hm
        have RT := Lib.hid RT
        go_wp2_with fail
        refine ((HP3.out _ (by repeat (first | with_reducible exact RT.out | with_reducible apply Rd.drewN | with_reducible apply Rd.drew | with_reducible apply Rd.alloc)))).mono ?_
        rintro e w3 ⟨rfl, b⟩
        have Sw3 := Lib.hid b.size
        have HB := Lib.hid (chain0 (w := w) (by repeat (first | with_reducible exact Below.refl _ _ | with_reducible exact HB.out | with_reducible apply Below.drew | with_reducible apply bdN | with_reducible refine Below.alloc ?_ (by first | exact Nat.le_refl _ | (simp; done) | (simp; omega) | (have := HB.out.size; simp at *; omega)) _ | with_reducible refine Below.setCell ?_ (by first | exact Nat.le_refl _ | (simp; done) | (simp; omega) | (have := HB.out.size; simp at *; omega)) _)) b)
        have HO1 := Lib.hid (OwnI.below (by repeat (first | with_reducible exact HO1.out | with_reducible apply OwnI.drewN | with_reducible apply OwnI.drew | with_reducible apply OwnI.alloc)) b)
        have HO2 := Lib.hid (Own.below (by repeat (first | with_reducible exact HO2.out | with_reducible apply Own.drewN | with_reducible apply Own.drew | with_reducible apply Own.alloc)) b)
        have RT := Lib.hid (Rd.below (by repeat (first | with_reducible exact RT.out | with_reducible apply Rd.drewN | with_reducible apply Rd.drew | with_reducible apply Rd.alloc)) b)
        have K1 : Hid (Box _ (wr.heap.size) (x)) := Lib.hid (Box.below (by repeat (first | with_reducible exact K1.out | with_reducible apply Box.drewN | with_reducible apply Box.drew | (with_reducible refine Box.newAt ?_ ?_ <;> first | (simp; done) | rfl) | with_reducible apply Box.alloc)) b)
        try clear k1a k1b k1c k1d k1z
        have k1z := K1.out.lt
        obtain ⟨k1a, k1b, k1c, k1d⟩ := K1.out.cell
        clear b
        have H3 := Lib.hid (show wr.heap.size + 1 ≤ w3.heap.size by have := Sw3.out; simp at this; omega)
        cases t
        · have HE1 := Lib.hid (gr_yes HXa.out (thr_zero (of_decide_eq_false HTT.out)))
          have HE2 := Lib.hid (tk_yes HXa.out (thr_zero (of_decide_eq_false HTT.out)))
          go_wp2_with (first
            | (at_builtin; refine append_int_at rfl (.tmp 25) (.tmp 27) rfl w.heap.size (.slice p1 m1 c1') (gr l k) (k : Int) w3 _ rfl rfl rfl HO1.out (by have := HG.out; omega) HB.out.size ?_; intro v1 w4 hO1 hB1 hG1 hat1; rw [← HE1.out] at hO1; have HO4 := Lib.hid hO1; have HB4 := Lib.hid (HB.out.trans hB1); have HOt := Lib.hid (HO2.out.past hG1 HA.out); have HA4 := Lib.hid (Ap.next HA.out (fun g hg => by have h1 := HL2.out g hg; have h2 := H3.out; omega) hat1); have K4 : Hid (Box w4 wr.heap.size x) := Lib.hid (Box.past K1.out hG1 (fun g hg => by have := HL1.out g hg; omega)); have HG4 := Lib.hid hG1.size; clear K1 HB hB1 hG1 hO1 hat1 k1a k1b k1c k1d k1z; obtain ⟨k1a, k1b, k1c, k1d⟩ := K4.out.cell; have k1z := K4.out.lt)
            | (at_builtin; refine append_cd_at rfl (.tmp 29) (.tmp 31) rfl w.heap.size (.slice p2 m c2') (tk l k) x w4 _ rfl rfl rfl HOt.out (by have := HM.out; omega) HB4.out.size ?_; intro v2 w5 hO2 hB2 hG2 hat2))
          rw [← HE2.out] at hO2
          go_roundw
          case rel => exact ⟨k + 1, by omega, by go_num, HO4.out.past hG2 HA4.out.symm, hO2, (Ap.next HA4.out.symm (fun g hg => by have := HO4.out.lt g hg; omega) hat2).symm, HB4.out.trans hB2⟩
          case measure => simp [intOf]; omega
        · have HE1 := Lib.hid (gr_no HXa.out (show ¬ _ from fun h => by have := of_decide_eq_true HTT.out; omega))
          have HE2 := Lib.hid (tk_no HXa.out (show ¬ _ from fun h => by have := of_decide_eq_true HTT.out; omega))
          go_wp2_with fail
          go_roundw
          case rel => exact ⟨k + 1, by omega, by go_num, by rw [HE1.out]; exact HO1, by rw [HE2.out]; exact HO2, HA, HB⟩
          case measure => simp [intOf]; omega
      · obtain rfl : k = n := by omega
        go_wp2_with fail
        go_ret2
        exact ⟨_, ret_two (by rw [HT.out]), by rw [HT.out]; exact HO1.out, HB.out⟩
end Go.Proofs.Ytbimbaogjknboaa.cards
