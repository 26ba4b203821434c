/- Merged texts: Xv. -/
import Derived.Test.YtjmlefcmhjodeaaXu
/- SharedMiddle: the model. -/
namespace Go.Proofs.Ytjmlefcmhjodeaa.others
open Go.RowKit
open Go.Maps (Keyed)
open cards reg
set_option linter.unusedVariables false

set_option maxRecDepth 100000 in
set_option maxHeartbeats 4000000 in
theorem spec_sm (l : List Cd) (p : Option Addr) (n cp : Nat) (w : World) (hn : l.length = n) (hl : n ≤ 1000000000) (hr : Rd w p (flat l)) :
    Calls Try.prog 36 #[.slice p n cp] w fun e w' => e = .returned (.tuple #[(smR l).1.val, .int .i64 (smR l).2.1, .bool (smR l).2.2]) ∧ Below w.heap.size w w' := by
  have HN := Lib.hid hn
  have HR0 := Lib.hid hr
  clear hn hr
  have K2 : Hid (Box (w.alloc zero.obj) w.heap.size zero) := Lib.hid (Box.newAt rfl rfl)
  have HB : Hid (Below w.heap.size w (w.alloc zero.obj)) := Lib.hid ((Below.refl _ _).alloc (Nat.le_refl _) _)
  have HIs := Lib.hid (fun w h => l2_hand l p n cp w HN.out hl h)
  cases hh : handB l
  · have HT := Lib.hid (smR_no (l := l) (.inl hh))
    rw [hh] at HIs
    clear hh
    go_enter Try.func36, Try.ntmps36
    go_wp2_with fail
    refine (HIs.out _ (HR0.out.below HB.out)).mono ?_
    rintro e w1 ⟨rfl, b⟩
    have Sw1 := Lib.hid b.size
    have HB := Lib.hid (chain0 (w := w) (by repeat (first | with_reducible exact Below.refl _ _ | with_reducible exact HB.out | with_reducible apply Below.drew | with_reducible apply bdN | with_reducible refine Below.alloc ?_ (by first | exact Nat.le_refl _ | with_reducible exact HB.out.size | omega | (simp; done) | (simp; omega) | (have := HB.out.size; simp at *; omega)) _ | with_reducible refine Below.setCell ?_ (by first | exact Nat.le_refl _ | with_reducible exact HB.out.size | omega | (simp; done) | (simp; omega) | (have := HB.out.size; simp at *; omega)) _)) b)
    have K2 := Lib.hid (Box.below (by repeat (first | with_reducible exact K2.out | with_reducible apply Box.drewN | with_reducible apply Box.drew | with_reducible apply Box.alloc)) b)
    clear b
    go_wp2_with ((with_reducible refine store_c rfl _ _ rfl K2.out ?_ zero ?_ ?_); rfl; rfl; intro w7 hM hG)
    try simp only [Exit.inBlock, Exit.then]
    refine bodyPost_ret (res_vb3 Try.results36 rfl (show VB w7 w.heap.size 25 (cvx zero) from hM) Try.underlying25 cvx_info) rfl ?_
    exact ⟨by rw [HT.out]; rfl, HB.out.grown hG HB.out.size (fun k hk => by injection hk with hk; omega)⟩
  · by_cases h2 : n < 2
    · have HT := Lib.hid (smR_no (l := l) (.inr (by rw [HN.out]; exact h2)))
      have m2 : (n : Int) < 2 := by omega
      rw [hh] at HIs
      clear hh
      go_enter Try.func36, Try.ntmps36
      go_wp2_with fail
      refine (HIs.out _ (HR0.out.below HB.out)).mono ?_
      rintro e w1 ⟨rfl, b⟩
      have Sw1 := Lib.hid b.size
      have HB := Lib.hid (chain0 (w := w) (by repeat (first | with_reducible exact Below.refl _ _ | with_reducible exact HB.out | with_reducible apply Below.drew | with_reducible apply bdN | with_reducible refine Below.alloc ?_ (by first | exact Nat.le_refl _ | with_reducible exact HB.out.size | omega | (simp; done) | (simp; omega) | (have := HB.out.size; simp at *; omega)) _ | with_reducible refine Below.setCell ?_ (by first | exact Nat.le_refl _ | with_reducible exact HB.out.size | omega | (simp; done) | (simp; omega) | (have := HB.out.size; simp at *; omega)) _)) b)
      have K2 := Lib.hid (Box.below (by repeat (first | with_reducible exact K2.out | with_reducible apply Box.drewN | with_reducible apply Box.drew | with_reducible apply Box.alloc)) b)
      clear b
      go_wp2_with ((with_reducible refine store_c rfl _ _ rfl K2.out ?_ zero ?_ ?_); rfl; rfl; intro w7 hM hG)
      try simp only [Exit.inBlock, Exit.then]
      refine bodyPost_ret (res_vb3 Try.results36 rfl (show VB w7 w.heap.size 25 (cvx zero) from hM) Try.underlying25 cvx_info) rfl ?_
      exact ⟨by rw [HT.out]; rfl, HB.out.grown hG HB.out.size (fun k hk => by injection hk with hk; omega)⟩
    · have m2 : ¬ (n : Int) < 2 := by omega
      have HH := Lib.hid (handB_true.1 hh)
      have HT := Lib.hid (show smR l = ((best l 81).1, (best l 81).2, true) by unfold smR; rw [if_pos ⟨hh, by rw [HN.out]; exact h2⟩])
      have HTh := Lib.hid (fun k (hk : k < 81) w h => l2_through l (cdAt ((k : Nat) : Int)) p n cp w HN.out (by have := HH.out.1; have := HN.out; omega) h HH.out.2.1 (cdAt_ok (by omega) (by omega)) HH.out.2.2)
      have HBd := Lib.hid (best_bd l)
      rw [hh] at HIs
      clear hh
      obtain ⟨R, hR⟩ : ∃ R, best l 81 = R := ⟨_, rfl⟩
      rw [hR] at HT
      have HRe := Lib.hid hR
      clear hR
      rw [HT.out]
      dsimp only
      go_enter Try.func36, Try.ntmps36
      go_wp2_with fail
      refine (HIs.out _ (HR0.out.below HB.out)).mono ?_
      rintro e w1 ⟨rfl, b⟩
      have Sw1 := Lib.hid b.size
      have HB := Lib.hid (chain0 (w := w) (by repeat (first | with_reducible exact Below.refl _ _ | with_reducible exact HB.out | with_reducible apply Below.drew | with_reducible apply bdN | with_reducible refine Below.alloc ?_ (by first | exact Nat.le_refl _ | with_reducible exact HB.out.size | omega | (simp; done) | (simp; omega) | (have := HB.out.size; simp at *; omega)) _ | with_reducible refine Below.setCell ?_ (by first | exact Nat.le_refl _ | with_reducible exact HB.out.size | omega | (simp; done) | (simp; omega) | (have := HB.out.size; simp at *; omega)) _)) b)
      have K2 := Lib.hid (Box.below (by repeat (first | with_reducible exact K2.out | with_reducible apply Box.drewN | with_reducible apply Box.drew | with_reducible apply Box.alloc)) b)
      clear b
      have HKz := Lib.hid K2.out.lt
      go_upto_region 4 with ((with_reducible refine store_c rfl _ _ rfl (Box.newAt (x := zero) rfl rfl) ?_ zero ?_ ?_); rfl; rfl; intro w2 hM hG)
      have b : Below w1.heap.size w1 w2 := Below.grown ((Below.refl _ _).alloc (Nat.le_refl _) _) hG (by simp) (fun k hk => by injection hk with hk; omega)
      have Sw2 := Lib.hid b.size
      have HB := Lib.hid (chain0 (w := w) (by repeat (first | with_reducible exact Below.refl _ _ | with_reducible exact HB.out | with_reducible apply Below.drew | with_reducible apply bdN | with_reducible refine Below.alloc ?_ (by first | exact Nat.le_refl _ | with_reducible exact HB.out.size | omega | (simp; done) | (simp; omega) | (have := HB.out.size; simp at *; omega)) _ | with_reducible refine Below.setCell ?_ (by first | exact Nat.le_refl _ | with_reducible exact HB.out.size | omega | (simp; done) | (simp; omega) | (have := HB.out.size; simp at *; omega)) _)) b)
      have K2 := Lib.hid (Box.below (by repeat (first | with_reducible exact K2.out | with_reducible apply Box.drewN | with_reducible apply Box.drew | with_reducible apply Box.alloc)) b)
      clear b
      have K5 := Lib.hid hM
      clear hM hG
      obtain ⟨q, hq⟩ : ∃ q, w1.heap.size = q := ⟨_, rfl⟩
      have HQz := Lib.hid (show w.heap.size < q by have := HKz.out; omega)
      rw [hq] at K5
      try rw [hq]
      clear hq
      go_wp2_with fail
      go_loopw [6, 7, 8] (fun o i _ wr => ∃ k : Nat, k ≤ 81 ∧ i = .int .i64 k ∧ o = .int .i64 (best l k).2 ∧ Hid (Box wr q (best l k).1) ∧ Hid (Box wr w.heap.size zero) ∧ Hid (Below w.heap.size w wr)) (fun _ i _ _ => 81 - (intOf i).toNat)
      case atStart => exact ⟨0, by omega, rfl, rfl, K5, K2, HB⟩
      case round =>
        clear K5 K2 HB
        obtain ⟨k, hk, rfl, rfl, K5, K2, HB⟩ := hrel
        have m0 : (0 : Int) ≤ (k : Int) := by omega
        obtain ⟨b0, b1⟩ := HBd.out k
        by_cases hlt : k < 81
        · have m1 : (k : Int) < 81 := by omega
          have HA := Lib.hid (fun w => l2_at (k : Int) w m0 (by omega))
          have HTk := Lib.hid (HTh.out k hlt)
          obtain ⟨t, ht⟩ : ∃ t, thr l (cdAt (k : Int)) l.length = t := ⟨_, rfl⟩
          have HYes := Lib.hid (best_yes (k := k) ht)
          have HNo := Lib.hid (best_no (k := k) ht)
          have hbd := thr_bd l (cdAt (k : Int)) l.length
          rw [HN.out] at ht hbd
          rw [ht] at HTk hbd
          obtain ⟨c, hc⟩ : ∃ c, cdAt (k : Int) = c := ⟨_, rfl⟩
          rw [hc] at HTk HA HYes
          clear ht hc
          obtain ⟨hb0, hb1⟩ := hbd
          have h27 : n ≤ 27 := by have := HH.out.1; have := HN.out; omega
          generalize best l k = bb at *
          obtain ⟨bc, bt⟩ := bb
          dsimp only at b0 b1 K5 HYes HNo ⊢
          go_wp2_with fail
          refine ((HA.out _)).mono ?_
          rintro e w3 ⟨rfl, b⟩
          have Sw3 := Lib.hid b.size
          have HB := Lib.hid (chain0 (w := w) (by repeat (first | with_reducible exact Below.refl _ _ | with_reducible exact HB.out | with_reducible apply Below.drew | with_reducible apply bdN | with_reducible refine Below.alloc ?_ (by first | exact Nat.le_refl _ | with_reducible exact HB.out.size | omega | (simp; done) | (simp; omega) | (have := HB.out.size; simp at *; omega)) _ | with_reducible refine Below.setCell ?_ (by first | exact Nat.le_refl _ | with_reducible exact HB.out.size | omega | (simp; done) | (simp; omega) | (have := HB.out.size; simp at *; omega)) _)) b)
          have K5 := Lib.hid (Box.below (by repeat (first | with_reducible exact K5.out | with_reducible apply Box.drewN | with_reducible apply Box.drew | with_reducible apply Box.alloc)) b)
          have K2 := Lib.hid (Box.below (by repeat (first | with_reducible exact K2.out | with_reducible apply Box.drewN | with_reducible apply Box.drew | with_reducible apply Box.alloc)) b)
          clear b
          go_wp2_with fail
          refine ((HTk.out _ (HR0.out.below HB.out))).mono ?_
          rintro e w4 ⟨rfl, b⟩
          have Sw4 := Lib.hid b.size
          have HB := Lib.hid (chain0 (w := w) (by repeat (first | with_reducible exact Below.refl _ _ | with_reducible exact HB.out | with_reducible apply Below.drew | with_reducible apply bdN | with_reducible refine Below.alloc ?_ (by first | exact Nat.le_refl _ | with_reducible exact HB.out.size | omega | (simp; done) | (simp; omega) | (have := HB.out.size; simp at *; omega)) _ | with_reducible refine Below.setCell ?_ (by first | exact Nat.le_refl _ | with_reducible exact HB.out.size | omega | (simp; done) | (simp; omega) | (have := HB.out.size; simp at *; omega)) _)) b)
          have K5 := Lib.hid (Box.below (by repeat (first | with_reducible exact K5.out | with_reducible apply Box.drewN | with_reducible apply Box.drew | with_reducible apply Box.alloc)) b)
          have K2 := Lib.hid (Box.below (by repeat (first | with_reducible exact K2.out | with_reducible apply Box.drewN | with_reducible apply Box.drew | with_reducible apply Box.alloc)) b)
          clear b
          by_cases hcmp : bt < t
          · have HF := Lib.hid (HYes.out hcmp)
            go_wp2_with fail
            refine ((HA.out _)).mono ?_
            rintro e w5 ⟨rfl, b⟩
            have Sw5 := Lib.hid b.size
            have HB := Lib.hid (chain0 (w := w) (by repeat (first | with_reducible exact Below.refl _ _ | with_reducible exact HB.out | with_reducible apply Below.drew | with_reducible apply bdN | with_reducible refine Below.alloc ?_ (by first | exact Nat.le_refl _ | with_reducible exact HB.out.size | omega | (simp; done) | (simp; omega) | (have := HB.out.size; simp at *; omega)) _ | with_reducible refine Below.setCell ?_ (by first | exact Nat.le_refl _ | with_reducible exact HB.out.size | omega | (simp; done) | (simp; omega) | (have := HB.out.size; simp at *; omega)) _)) b)
            have K5 := Lib.hid (Box.below (by repeat (first | with_reducible exact K5.out | with_reducible apply Box.drewN | with_reducible apply Box.drew | with_reducible apply Box.alloc)) b)
            have K2 := Lib.hid (Box.below (by repeat (first | with_reducible exact K2.out | with_reducible apply Box.drewN | with_reducible apply Box.drew | with_reducible apply Box.alloc)) b)
            clear b
            go_upto_region 7 with ((with_reducible refine store_c rfl _ _ rfl K5.out ?_ c ?_ ?_); rfl; rfl; intro w6 hM hG)
            have b : Below w.heap.size w5 w6 := (Below.refl _ _).grown hG (by have := HB.out.size; omega) (fun k hk => by injection hk with hk; have := HQz.out; omega)
            have HB6 := Lib.hid (HB.out.trans b)
            have K26 := Lib.hid (Box.markedB K2.out hG (fun e => by injection e with e; have := HQz.out; omega))
            have K56 : Hid (Box w6 q (best l (k + 1)).1) := Lib.hid (by rw [HF.out]; exact hM)
            clear hM hG b
            go_wp2_with fail
            go_roundw
            case rel => exact ⟨k + 1, by omega, by go_num, by rw [HF.out], K56, K26, HB6⟩
            case measure => simp [intOf]; omega
          · have HF := Lib.hid (HNo.out (by omega))
            go_wp2_with fail
            go_roundw
            case rel => exact ⟨k + 1, by omega, by go_num, by rw [HF.out], by rw [HF.out]; exact K5, K2, HB⟩
            case measure => simp [intOf]; omega
        · obtain rfl : k = 81 := by omega
          rw [HRe.out] at K5 ⊢
          go_wp2_with (first | ((with_reducible refine take_c rfl _ rfl K5.out ?_ ?_); rfl) | ((with_reducible refine store_c rfl _ _ rfl K2.out ?_ R.1 ?_ ?_); rfl; rfl; intro w7 hM hG))
          try simp only [Exit.inBlock, Exit.then]
          refine bodyPost_ret (res_vb3 Try.results36 rfl (show VB w7 w.heap.size 25 (cvx R.1) from hM) Try.underlying25 cvx_info) rfl ?_
          exact ⟨rfl, HB.out.grown hG HB.out.size (fun k hk => by injection hk with hk; omega)⟩
end Go.Proofs.Ytjmlefcmhjodeaa.others

