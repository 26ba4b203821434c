/- BlockedCards, FreeCards, IsFullCap: the model; IsFullCap: the program. -/
import Derived.Test.YtbimbaogjknboaaFc
import Derived.Test.YtbimbaogjknboaaAk
import Derived.Test.YtbimbaogjknboaaCq
namespace Go.Proofs.Ytbimbaogjknboaa.cards
open Go.RowKit
set_option linter.unusedVariables false

noncomputable def sel (l : List Cd) (b : Bool) (y : Cd) : Bool := !there l y && (decide (0 < thr l y l.length) == b)
theorem sel_true (l : List Cd) : sel l true = blk l := by funext y; unfold sel blk; cases there l y <;> cases decide (0 < thr l y l.length) <;> rfl
theorem sel_false (l : List Cd) : sel l false = fre l := by funext y; unfold sel fre; cases there l y <;> cases decide (0 < thr l y l.length) <;> rfl

set_option maxRecDepth 100000 in
set_option maxHeartbeats 4000000 in
theorem l3_cards (l : List Cd) (bl : Bool) (p : Option Addr) (n cp : Nat) (w : World) (hn : l.length = n) (hl : n ≤ 1000) (hr : Rd w p (flat l)) (hok : l.all Cd.ok = true) (hs : sorted l) :
    Calls Try.prog 56 #[.slice p n cp, .bool bl] w fun e w' => ∃ u, e = .returned u ∧ OwnI w' w.heap.size u (nums (sel l bl) 81) ∧ Below w.heap.size w w' := by
  have HN := Lib.hid hn
  have HR0 := Lib.hid hr
  have HS := Lib.hid hs
  have HK := Lib.hid hok
  clear hn hr hs hok
  go_enter Try.func56, Try.ntmps56
  go_wp2_with fail
  go_loopw [5, 6, 7] (fun o i _ wr => ∃ k : Nat, k ≤ 81 ∧ i = .int .i64 k ∧ Hid (OwnI wr w.heap.size o (nums (sel l bl) k)) ∧ Hid (Below w.heap.size w wr)) (fun _ i _ _ => 81 - (intOf i).toNat)
  case atStart => exact ⟨0, Nat.zero_le _, rfl, Lib.hid (OwnI.empty w w.heap.size (Nat.le_refl _)), Lib.hid (by repeat (first | with_reducible exact Below.refl _ _ | with_reducible exact HB.out | with_reducible apply Below.drew | with_reducible apply bdN | with_reducible refine Below.alloc ?_ (by first | exact Nat.le_refl _ | (simp; done) | (simp; omega) | (have := HB.out.size; simp at *; omega)) _ | with_reducible refine Below.setCell ?_ (by first | exact Nat.le_refl _ | (simp; done) | (simp; omega) | (have := HB.out.size; simp at *; omega)) _))⟩
  case round =>
    obtain ⟨k, hk, rfl, HO, HB⟩ := hrel
    by_cases hlt : k < 81
    · have HR := Lib.hid (HR0.out.below HB.out)
      have m0 : (0 : Int) ≤ (k : Int) := by omega
      have m1 : (k : Int) < 81 := by omega
      have HC := Lib.hid (cdAt_ok (n := (k : Int)) m0 (by omega))
      have HLn := Lib.hid (nums_len (sel l bl) k)
      go_wp2_with fail
      refine ((l2_at (k : Int) _ m0 (by omega))).mono ?_
      rintro e w2 ⟨rfl, b⟩
      have Sw2 := Lib.hid b.size
      have HB := Lib.hid (chain0 (w := w) (by repeat (first | with_reducible exact Below.refl _ _ | with_reducible exact HB.out | with_reducible apply Below.drew | with_reducible apply bdN | with_reducible refine Below.alloc ?_ (by first | exact Nat.le_refl _ | (simp; done) | (simp; omega) | (have := HB.out.size; simp at *; omega)) _ | with_reducible refine Below.setCell ?_ (by first | exact Nat.le_refl _ | (simp; done) | (simp; omega) | (have := HB.out.size; simp at *; omega)) _)) b)
      have HR := Lib.hid (Rd.below (by repeat (first | with_reducible exact HR.out | with_reducible apply Rd.drewN | with_reducible apply Rd.drew | with_reducible apply Rd.alloc)) b)
      have HO := Lib.hid (OwnI.below (by repeat (first | with_reducible exact HO.out | with_reducible apply OwnI.drewN | with_reducible apply OwnI.drew | with_reducible apply OwnI.alloc)) b)
      clear b
      have HP := fun w' (hr : Rd w' p (flat l)) => l2_has l (cdAt (k : Int)) p n cp w' HN.out hl hr HK.out HC.out HS.out
      have HT := fun w' (hr : Rd w' p (flat l)) => l2_through l (cdAt (k : Int)) p n cp w' HN.out hl hr HK.out HC.out HS.out
      cases ht : there l (cdAt (k : Int))
      · rw [ht] at HP
        obtain ⟨v, hv⟩ : ∃ v, thr l (cdAt (k : Int)) n = v := ⟨_, rfl⟩
        have hvd : sel l bl (cdAt (k : Int)) = (decide (0 < v) == bl) := by unfold sel; rw [ht, HN.out, hv]; rfl
        rw [hv] at HT
        have HP2 := Lib.hid HP
        have HT2 := Lib.hid HT
        clear HP HT ht hv
        go_wp2_with fail
        refine ((HP2.out _ (by repeat (first | with_reducible exact HR.out | with_reducible apply Rd.drewN | with_reducible apply Rd.drew | with_reducible apply Rd.alloc)))).mono ?_
        rintro e w3 ⟨rfl, b⟩
        have Sw3 := Lib.hid b.size
        have HB := Lib.hid (chain0 (w := w) (by repeat (first | with_reducible exact Below.refl _ _ | with_reducible exact HB.out | with_reducible apply Below.drew | with_reducible apply bdN | with_reducible refine Below.alloc ?_ (by first | exact Nat.le_refl _ | (simp; done) | (simp; omega) | (have := HB.out.size; simp at *; omega)) _ | with_reducible refine Below.setCell ?_ (by first | exact Nat.le_refl _ | (simp; done) | (simp; omega) | (have := HB.out.size; simp at *; omega)) _)) b)
        have HR := Lib.hid (Rd.below (by repeat (first | with_reducible exact HR.out | with_reducible apply Rd.drewN | with_reducible apply Rd.drew | with_reducible apply Rd.alloc)) b)
        have HO := Lib.hid (OwnI.below (by repeat (first | with_reducible exact HO.out | with_reducible apply OwnI.drewN | with_reducible apply OwnI.drew | with_reducible apply OwnI.alloc)) b)
        have K1 : Hid (Box _ (w2.heap.size) ((cdAt (k : Int)))) := Lib.hid (Box.below (by repeat (first | with_reducible exact K1.out | with_reducible apply Box.drewN | with_reducible apply Box.drew | (with_reducible refine Box.newAt ?_ ?_ <;> first | (simp; done) | rfl) | with_reducible apply Box.alloc)) b)
        try clear k1a k1b k1c k1d k1z
        have k1z := K1.out.lt
        obtain ⟨k1a, k1b, k1c, k1d⟩ := K1.out.cell
        clear b
        go_wp2_with fail
        refine ((HT2.out _ (by repeat (first | with_reducible exact HR.out | with_reducible apply Rd.drewN | with_reducible apply Rd.drew | with_reducible apply Rd.alloc)))).mono ?_
        rintro e w4 ⟨rfl, b⟩
        have Sw4 := Lib.hid b.size
        have HB := Lib.hid (chain0 (w := w) (by repeat (first | with_reducible exact Below.refl _ _ | with_reducible exact HB.out | with_reducible apply Below.drew | with_reducible apply bdN | with_reducible refine Below.alloc ?_ (by first | exact Nat.le_refl _ | (simp; done) | (simp; omega) | (have := HB.out.size; simp at *; omega)) _ | with_reducible refine Below.setCell ?_ (by first | exact Nat.le_refl _ | (simp; done) | (simp; omega) | (have := HB.out.size; simp at *; omega)) _)) b)
        have HR := Lib.hid (Rd.below (by repeat (first | with_reducible exact HR.out | with_reducible apply Rd.drewN | with_reducible apply Rd.drew | with_reducible apply Rd.alloc)) b)
        have HO := Lib.hid (OwnI.below (by repeat (first | with_reducible exact HO.out | with_reducible apply OwnI.drewN | with_reducible apply OwnI.drew | with_reducible apply OwnI.alloc)) b)
        have K1 : Hid (Box _ (w2.heap.size) ((cdAt (k : Int)))) := Lib.hid (Box.below (by repeat (first | with_reducible exact K1.out | with_reducible apply Box.drewN | with_reducible apply Box.drew | (with_reducible refine Box.newAt ?_ ?_ <;> first | (simp; done) | rfl) | with_reducible apply Box.alloc)) b)
        try clear k1a k1b k1c k1d k1z
        have k1z := K1.out.lt
        obtain ⟨k1a, k1b, k1c, k1d⟩ := K1.out.cell
        clear b
        by_cases hv : 0 < v
        · have hd : decide (0 < v) = true := decide_eq_true hv
          rw [hd] at hvd
          cases bl
          · have HE := Lib.hid (nums_no (show sel l false (cdAt (k : Int)) = false from hvd))
            clear hvd
            go_wp2_with fail
            go_roundw
            case rel => exact ⟨k + 1, by omega, by go_num, by rw [HE.out]; exact HO, HB⟩
            case measure => simp [intOf]; omega
          · have HE := Lib.hid (nums_yes (show sel l true (cdAt (k : Int)) = true from hvd))
            clear hvd
            go_wp2_with (at_builtin; refine append_int rfl (.tmp 27) (.tmp 29) rfl w.heap.size _ (nums (sel l true) k) (k : Int) _ _ rfl rfl rfl HO.out (by have := HLn.out; omega) HB.out.size ?_; intro v1 w5 hO1 hB1)
            rw [← HE.out] at hO1
            go_roundw
            case rel => exact ⟨k + 1, by omega, by go_num, hO1, HB.out.trans hB1⟩
            case measure => simp [intOf]; omega
        · have hd : decide (0 < v) = false := decide_eq_false hv
          rw [hd] at hvd
          cases bl
          · have HE := Lib.hid (nums_yes (show sel l false (cdAt (k : Int)) = true from hvd))
            clear hvd
            go_wp2_with (at_builtin; refine append_int rfl (.tmp 27) (.tmp 29) rfl w.heap.size _ (nums (sel l false) k) (k : Int) _ _ rfl rfl rfl HO.out (by have := HLn.out; omega) HB.out.size ?_; intro v1 w5 hO1 hB1)
            rw [← HE.out] at hO1
            go_roundw
            case rel => exact ⟨k + 1, by omega, by go_num, hO1, HB.out.trans hB1⟩
            case measure => simp [intOf]; omega
          · have HE := Lib.hid (nums_no (show sel l true (cdAt (k : Int)) = false from hvd))
            clear hvd
            go_wp2_with fail
            go_roundw
            case rel => exact ⟨k + 1, by omega, by go_num, by rw [HE.out]; exact HO, HB⟩
            case measure => simp [intOf]; omega
      · rw [ht] at HP
        have hvd : sel l bl (cdAt (k : Int)) = false := by unfold sel; rw [ht]; rfl
        have HE := Lib.hid (nums_no hvd)
        have HP2 := Lib.hid HP
        clear HP HT ht hvd
        go_wp2_with fail
        refine ((HP2.out _ (by repeat (first | with_reducible exact HR.out | with_reducible apply Rd.drewN | with_reducible apply Rd.drew | with_reducible apply Rd.alloc)))).mono ?_
        rintro e w3 ⟨rfl, b⟩
        have Sw3 := Lib.hid b.size
        have HB := Lib.hid (chain0 (w := w) (by repeat (first | with_reducible exact Below.refl _ _ | with_reducible exact HB.out | with_reducible apply Below.drew | with_reducible apply bdN | with_reducible refine Below.alloc ?_ (by first | exact Nat.le_refl _ | (simp; done) | (simp; omega) | (have := HB.out.size; simp at *; omega)) _ | with_reducible refine Below.setCell ?_ (by first | exact Nat.le_refl _ | (simp; done) | (simp; omega) | (have := HB.out.size; simp at *; omega)) _)) b)
        have HR := Lib.hid (Rd.below (by repeat (first | with_reducible exact HR.out | with_reducible apply Rd.drewN | with_reducible apply Rd.drew | with_reducible apply Rd.alloc)) b)
        have HO := Lib.hid (OwnI.below (by repeat (first | with_reducible exact HO.out | with_reducible apply OwnI.drewN | with_reducible apply OwnI.drew | with_reducible apply OwnI.alloc)) b)
        have K1 : Hid (Box _ (w2.heap.size) ((cdAt (k : Int)))) := Lib.hid (Box.below (by repeat (first | with_reducible exact K1.out | with_reducible apply Box.drewN | with_reducible apply Box.drew | (with_reducible refine Box.newAt ?_ ?_ <;> first | (simp; done) | rfl) | with_reducible apply Box.alloc)) b)
        try clear k1a k1b k1c k1d k1z
        have k1z := K1.out.lt
        obtain ⟨k1a, k1b, k1c, k1d⟩ := K1.out.cell
        clear b
        go_wp2_with fail
        go_roundw
        case rel => exact ⟨k + 1, by omega, by go_num, by rw [HE.out]; exact HO, HB⟩
        case measure => simp [intOf]; omega
    · obtain rfl : k = 81 := by omega
      go_wp2_with fail
      go_ret
      exact ⟨_, rfl, HO.out, HB.out⟩

set_option maxRecDepth 100000 in
set_option maxHeartbeats 4000000 in
theorem spec_free (l : List Cd) (p : Option Addr) (n cp : Nat) (w : World) (hn : l.length = n) (hl : n ≤ 1000000000) (hr : Rd w p (flat l)) (hcp : n ≤ cp) :
    Calls Try.prog 26 #[.slice p n cp] w fun e w' => ∃ u, e = .returned (.tuple #[u, .bool (freeR l).2]) ∧ OwnI w' w.heap.size u (freeR l).1 ∧ Below w.heap.size w w' := by
  have HN := Lib.hid hn
  have HR := Lib.hid hr
  clear hn hr
  go_enter Try.func26, Try.ntmps26
  go_wp2_with fail
  refine ((l2_hand l p n cp _ HN.out hl (by repeat (first | with_reducible exact HR.out | with_reducible apply Rd.drewN | with_reducible apply Rd.drew | with_reducible apply Rd.alloc)))).mono ?_
  rintro e w1 ⟨rfl, b⟩
  have Sw1 := Lib.hid b.size
  have HB := Lib.hid (chain0 (w := w) (by repeat (first | with_reducible exact Below.refl _ _ | with_reducible exact HB.out | with_reducible apply Below.drew | with_reducible apply bdN | with_reducible refine Below.alloc ?_ (by first | exact Nat.le_refl _ | (simp; done) | (simp; omega) | (have := HB.out.size; simp at *; omega)) _ | with_reducible refine Below.setCell ?_ (by first | exact Nat.le_refl _ | (simp; done) | (simp; omega) | (have := HB.out.size; simp at *; omega)) _)) b)
  have HR := Lib.hid (Rd.below (by repeat (first | with_reducible exact HR.out | with_reducible apply Rd.drewN | with_reducible apply Rd.drew | with_reducible apply Rd.alloc)) b)
  clear b
  cases hh : handB l
  · have HT := Lib.hid (show freeR l = ([], false) by unfold freeR; rw [if_neg (by simp [hh])])
    go_wp2_with fail
    go_ret2
    exact ⟨_, ret_two (by rw [HT.out]), by rw [HT.out]; exact OwnI.empty _ _ HB.out.size, by repeat (first | with_reducible exact Below.refl _ _ | with_reducible exact HB.out | with_reducible apply Below.drew | with_reducible apply bdN | with_reducible refine Below.alloc ?_ (by first | exact Nat.le_refl _ | (simp; done) | (simp; omega) | (have := HB.out.size; simp at *; omega)) _ | with_reducible refine Below.setCell ?_ (by first | exact Nat.le_refl _ | (simp; done) | (simp; omega) | (have := HB.out.size; simp at *; omega)) _)⟩
  · have HT := Lib.hid (show freeR l = (nums (sel l false) 81, true) by unfold freeR; rw [if_pos hh, sel_false])
    have HH := Lib.hid (handB_true.1 hh)
    clear hh
    go_wp2_with fail
    refine (l3_cards l false p n cp _ HN.out (by have := HH.out.1; have := HN.out; omega) (by repeat (first | with_reducible exact HR.out | with_reducible apply Rd.drewN | with_reducible apply Rd.drew | with_reducible apply Rd.alloc)) HH.out.2.1 HH.out.2.2).mono ?_
    rintro e w2 ⟨u, rfl, hu, b⟩
    have HZ := Lib.hid HB.out.size
    have Sw2 := Lib.hid b.size
    have HB := Lib.hid (chain0 (w := w) (by repeat (first | with_reducible exact Below.refl _ _ | with_reducible exact HB.out | with_reducible apply Below.drew | with_reducible apply bdN | with_reducible refine Below.alloc ?_ (by first | exact Nat.le_refl _ | (simp; done) | (simp; omega) | (have := HB.out.size; simp at *; omega)) _ | with_reducible refine Below.setCell ?_ (by first | exact Nat.le_refl _ | (simp; done) | (simp; omega) | (have := HB.out.size; simp at *; omega)) _)) b)
    have HR := Lib.hid (Rd.below (by repeat (first | with_reducible exact HR.out | with_reducible apply Rd.drewN | with_reducible apply Rd.drew | with_reducible apply Rd.alloc)) b)
    clear b
    have HU := Lib.hid (hu.base HZ.out)
    clear hu
    go_wp2_with fail
    go_ret2
    exact ⟨_, ret_two (by rw [HT.out]), by rw [HT.out]; exact HU.out, HB.out⟩

set_option maxRecDepth 100000 in
set_option maxHeartbeats 4000000 in
theorem spec_blocked (l : List Cd) (p : Option Addr) (n cp : Nat) (w : World) (hn : l.length = n) (hl : n ≤ 1000000000) (hr : Rd w p (flat l)) (hcp : n ≤ cp) :
    Calls Try.prog 20 #[.slice p n cp] w fun e w' => ∃ u, e = .returned (.tuple #[u, .bool (blkR l).2]) ∧ OwnI w' w.heap.size u (blkR l).1 ∧ Below w.heap.size w w' := by
  have HN := Lib.hid hn
  have HR := Lib.hid hr
  clear hn hr
  go_enter Try.func20, Try.ntmps20
  go_wp2_with fail
  refine ((l2_hand l p n cp _ HN.out hl (by repeat (first | with_reducible exact HR.out | with_reducible apply Rd.drewN | with_reducible apply Rd.drew | with_reducible apply Rd.alloc)))).mono ?_
  rintro e w1 ⟨rfl, b⟩
  have Sw1 := Lib.hid b.size
  have HB := Lib.hid (chain0 (w := w) (by repeat (first | with_reducible exact Below.refl _ _ | with_reducible exact HB.out | with_reducible apply Below.drew | with_reducible apply bdN | with_reducible refine Below.alloc ?_ (by first | exact Nat.le_refl _ | (simp; done) | (simp; omega) | (have := HB.out.size; simp at *; omega)) _ | with_reducible refine Below.setCell ?_ (by first | exact Nat.le_refl _ | (simp; done) | (simp; omega) | (have := HB.out.size; simp at *; omega)) _)) b)
  have HR := Lib.hid (Rd.below (by repeat (first | with_reducible exact HR.out | with_reducible apply Rd.drewN | with_reducible apply Rd.drew | with_reducible apply Rd.alloc)) b)
  clear b
  cases hh : handB l
  · have HT := Lib.hid (show blkR l = ([], false) by unfold blkR; rw [if_neg (by simp [hh])])
    go_wp2_with fail
    go_ret2
    exact ⟨_, ret_two (by rw [HT.out]), by rw [HT.out]; exact OwnI.empty _ _ HB.out.size, by repeat (first | with_reducible exact Below.refl _ _ | with_reducible exact HB.out | with_reducible apply Below.drew | with_reducible apply bdN | with_reducible refine Below.alloc ?_ (by first | exact Nat.le_refl _ | (simp; done) | (simp; omega) | (have := HB.out.size; simp at *; omega)) _ | with_reducible refine Below.setCell ?_ (by first | exact Nat.le_refl _ | (simp; done) | (simp; omega) | (have := HB.out.size; simp at *; omega)) _)⟩
  · have HT := Lib.hid (show blkR l = (nums (sel l true) 81, true) by unfold blkR; rw [if_pos hh, sel_true])
    have HH := Lib.hid (handB_true.1 hh)
    clear hh
    go_wp2_with fail
    refine (l3_cards l true p n cp _ HN.out (by have := HH.out.1; have := HN.out; omega) (by repeat (first | with_reducible exact HR.out | with_reducible apply Rd.drewN | with_reducible apply Rd.drew | with_reducible apply Rd.alloc)) HH.out.2.1 HH.out.2.2).mono ?_
    rintro e w2 ⟨u, rfl, hu, b⟩
    have HZ := Lib.hid HB.out.size
    have Sw2 := Lib.hid b.size
    have HB := Lib.hid (chain0 (w := w) (by repeat (first | with_reducible exact Below.refl _ _ | with_reducible exact HB.out | with_reducible apply Below.drew | with_reducible apply bdN | with_reducible refine Below.alloc ?_ (by first | exact Nat.le_refl _ | (simp; done) | (simp; omega) | (have := HB.out.size; simp at *; omega)) _ | with_reducible refine Below.setCell ?_ (by first | exact Nat.le_refl _ | (simp; done) | (simp; omega) | (have := HB.out.size; simp at *; omega)) _)) b)
    have HR := Lib.hid (Rd.below (by repeat (first | with_reducible exact HR.out | with_reducible apply Rd.drewN | with_reducible apply Rd.drew | with_reducible apply Rd.alloc)) b)
    clear b
    have HU := Lib.hid (hu.base HZ.out)
    clear hu
    go_wp2_with fail
    go_ret2
    exact ⟨_, ret_two (by rw [HT.out]), by rw [HT.out]; exact HU.out, HB.out⟩

noncomputable def fullR (l : List Cd) : Bool × Bool := if handB l = true then (capB l && decide ((nums (fre l) 81).length = 0), true) else (false, false)

set_option maxRecDepth 100000 in
set_option maxHeartbeats 4000000 in
theorem spec_full (l : List Cd) (p : Option Addr) (n cp : Nat) (w : World) (hn : l.length = n) (hl : n ≤ 1000000000) (hr : Rd w p (flat l)) (hcp : n ≤ cp) :
    Calls Try.prog 28 #[.slice p n cp] w fun e w' => e = .returned (.tuple #[.bool (fullR l).1, .bool (fullR l).2]) ∧ Below w.heap.size w w' := by
  have HN := Lib.hid hn
  have HR := Lib.hid hr
  clear hn hr
  go_enter Try.func28, Try.ntmps28
  go_wp2_with fail
  refine ((l2_hand l p n cp _ HN.out hl (by repeat (first | with_reducible exact HR.out | with_reducible apply Rd.drewN | with_reducible apply Rd.drew | with_reducible apply Rd.alloc)))).mono ?_
  rintro e w1 ⟨rfl, b⟩
  have Sw1 := Lib.hid b.size
  have HB := Lib.hid (chain0 (w := w) (by repeat (first | with_reducible exact Below.refl _ _ | with_reducible exact HB.out | with_reducible apply Below.drew | with_reducible apply bdN | with_reducible refine Below.alloc ?_ (by first | exact Nat.le_refl _ | (simp; done) | (simp; omega) | (have := HB.out.size; simp at *; omega)) _ | with_reducible refine Below.setCell ?_ (by first | exact Nat.le_refl _ | (simp; done) | (simp; omega) | (have := HB.out.size; simp at *; omega)) _)) b)
  have HR := Lib.hid (Rd.below (by repeat (first | with_reducible exact HR.out | with_reducible apply Rd.drewN | with_reducible apply Rd.drew | with_reducible apply Rd.alloc)) b)
  clear b
  cases hh : handB l
  · go_wp2_with fail
    go_ret2
    exact ⟨ret_bb (by unfold fullR; rw [if_neg (by simp [hh])]), by repeat (first | with_reducible exact Below.refl _ _ | with_reducible exact HB.out | with_reducible apply Below.drew | with_reducible apply bdN | with_reducible refine Below.alloc ?_ (by first | exact Nat.le_refl _ | (simp; done) | (simp; omega) | (have := HB.out.size; simp at *; omega)) _ | with_reducible refine Below.setCell ?_ (by first | exact Nat.le_refl _ | (simp; done) | (simp; omega) | (have := HB.out.size; simp at *; omega)) _)⟩
  · have HH := Lib.hid (handB_true.1 hh)
    have HT := Lib.hid (show fullR l = (capB l && decide ((nums (sel l false) 81).length = 0), true) by unfold fullR; rw [if_pos hh, sel_false])
    have h27 : n ≤ 27 := by have := HH.out.1; have := HN.out; omega
    go_wp2_with fail
    refine ((l3_cap l p n cp _ HN.out h27 (by repeat (first | with_reducible exact HR.out | with_reducible apply Rd.drewN | with_reducible apply Rd.drew | with_reducible apply Rd.alloc)) HH.out.2.1 HH.out.2.2)).mono ?_
    rintro e w2 ⟨rfl, b⟩
    have Sw2 := Lib.hid b.size
    have HB := Lib.hid (chain0 (w := w) (by repeat (first | with_reducible exact Below.refl _ _ | with_reducible exact HB.out | with_reducible apply Below.drew | with_reducible apply bdN | with_reducible refine Below.alloc ?_ (by first | exact Nat.le_refl _ | (simp; done) | (simp; omega) | (have := HB.out.size; simp at *; omega)) _ | with_reducible refine Below.setCell ?_ (by first | exact Nat.le_refl _ | (simp; done) | (simp; omega) | (have := HB.out.size; simp at *; omega)) _)) b)
    have HR := Lib.hid (Rd.below (by repeat (first | with_reducible exact HR.out | with_reducible apply Rd.drewN | with_reducible apply Rd.drew | with_reducible apply Rd.alloc)) b)
    clear b
    cases hc : capB l
    · go_wp2_with fail
      go_ret2
      exact ⟨ret_bb (by rw [HT.out, hc]; rfl), by repeat (first | with_reducible exact Below.refl _ _ | with_reducible exact HB.out | with_reducible apply Below.drew | with_reducible apply bdN | with_reducible refine Below.alloc ?_ (by first | exact Nat.le_refl _ | (simp; done) | (simp; omega) | (have := HB.out.size; simp at *; omega)) _ | with_reducible refine Below.setCell ?_ (by first | exact Nat.le_refl _ | (simp; done) | (simp; omega) | (have := HB.out.size; simp at *; omega)) _)⟩
    · go_wp2_with fail
      refine (l3_cards l false p n cp _ HN.out (by omega) (by repeat (first | with_reducible exact HR.out | with_reducible apply Rd.drewN | with_reducible apply Rd.drew | with_reducible apply Rd.alloc)) HH.out.2.1 HH.out.2.2).mono ?_
      rintro e w3 ⟨u, rfl, hu, b⟩
      obtain ⟨p1, c1, rfl, _⟩ := hu.form
      clear hu
      obtain ⟨m, hm⟩ : ∃ m, (nums (sel l false) 81).length = m := ⟨_, rfl⟩
      have HM := Lib.hid hm
      rw [hm]
      clear hm
      have Sw3 := Lib.hid b.size
      have HB := Lib.hid (chain0 (w := w) (by repeat (first | with_reducible exact Below.refl _ _ | with_reducible exact HB.out | with_reducible apply Below.drew | with_reducible apply bdN | with_reducible refine Below.alloc ?_ (by first | exact Nat.le_refl _ | (simp; done) | (simp; omega) | (have := HB.out.size; simp at *; omega)) _ | with_reducible refine Below.setCell ?_ (by first | exact Nat.le_refl _ | (simp; done) | (simp; omega) | (have := HB.out.size; simp at *; omega)) _)) b)
      have HR := Lib.hid (Rd.below (by repeat (first | with_reducible exact HR.out | with_reducible apply Rd.drewN | with_reducible apply Rd.drew | with_reducible apply Rd.alloc)) b)
      clear b
      by_cases hm0 : m = 0
      · subst hm0
        go_wp2_with fail
        go_ret2
        exact ⟨ret_bb (by rw [HT.out, hc, HM.out]; rfl), by repeat (first | with_reducible exact Below.refl _ _ | with_reducible exact HB.out | with_reducible apply Below.drew | with_reducible apply bdN | with_reducible refine Below.alloc ?_ (by first | exact Nat.le_refl _ | (simp; done) | (simp; omega) | (have := HB.out.size; simp at *; omega)) _ | with_reducible refine Below.setCell ?_ (by first | exact Nat.le_refl _ | (simp; done) | (simp; omega) | (have := HB.out.size; simp at *; omega)) _)⟩
      · have hm1 : ((m : Int) == 0) = false := by simp; omega
        go_wp2_with fail
        go_ret2
        exact ⟨ret_bb (by rw [HT.out, hc, HM.out, decide_eq_false hm0]; rfl), by repeat (first | with_reducible exact Below.refl _ _ | with_reducible exact HB.out | with_reducible apply Below.drew | with_reducible apply bdN | with_reducible refine Below.alloc ?_ (by first | exact Nat.le_refl _ | (simp; done) | (simp; omega) | (have := HB.out.size; simp at *; omega)) _ | with_reducible refine Below.setCell ?_ (by first | exact Nat.le_refl _ | (simp; done) | (simp; omega) | (have := HB.out.size; simp at *; omega)) _)⟩

set_option maxRecDepth 100000 in
set_option maxHeartbeats 4000000 in
theorem impl_full (l : List Cd) (p : Option Addr) (n cp : Nat) (w : World) (hn : l.length = n) (hl : n ≤ 1000000000) (hr : Rd w p (flat l)) (hcp : n ≤ cp) :
    Calls Try.prog 29 #[.slice p n cp] w fun e w' => e = .returned (.tuple #[.bool (fullR l).1, .bool (fullR l).2]) ∧ Below w.heap.size w w' := by
  have HN := Lib.hid hn
  have HR := Lib.hid hr
  clear hn hr
  go_enter Try.func29, Try.ntmps29
  go_wp2_with fail
  refine ((is_hand l p n cp _ HN.out hl (by repeat (first | with_reducible exact HR.out | with_reducible apply Rd.drewN | with_reducible apply Rd.drew | with_reducible apply Rd.alloc)))).mono ?_
  rintro e w1 ⟨rfl, b⟩
  have Sw1 := Lib.hid b.size
  have HB := Lib.hid (chain0 (w := w) (by repeat (first | with_reducible exact Below.refl _ _ | with_reducible exact HB.out | with_reducible apply Below.drew | with_reducible apply bdN | with_reducible refine Below.alloc ?_ (by first | exact Nat.le_refl _ | (simp; done) | (simp; omega) | (have := HB.out.size; simp at *; omega)) _ | with_reducible refine Below.setCell ?_ (by first | exact Nat.le_refl _ | (simp; done) | (simp; omega) | (have := HB.out.size; simp at *; omega)) _)) b)
  have HR := Lib.hid (Rd.below (by repeat (first | with_reducible exact HR.out | with_reducible apply Rd.drewN | with_reducible apply Rd.drew | with_reducible apply Rd.alloc)) b)
  clear b
  cases hh : handB l
  · go_wp2_with fail
    go_ret2
    exact ⟨ret_bb (by unfold fullR; rw [if_neg (by simp [hh])]), by repeat (first | with_reducible exact Below.refl _ _ | with_reducible exact HB.out | with_reducible apply Below.drew | with_reducible apply bdN | with_reducible refine Below.alloc ?_ (by first | exact Nat.le_refl _ | (simp; done) | (simp; omega) | (have := HB.out.size; simp at *; omega)) _ | with_reducible refine Below.setCell ?_ (by first | exact Nat.le_refl _ | (simp; done) | (simp; omega) | (have := HB.out.size; simp at *; omega)) _)⟩
  · have HH := Lib.hid (handB_true.1 hh)
    have HT := Lib.hid (show fullR l = (capB l && decide ((nums (fre l) 81).length = 0), true) by unfold fullR; rw [if_pos hh])
    have h27 : n ≤ 27 := by have := HH.out.1; have := HN.out; omega
    go_wp2_with fail
    refine ((are_cap l p n cp _ HN.out (by omega) hcp (by repeat (first | with_reducible exact HR.out | with_reducible apply Rd.drewN | with_reducible apply Rd.drew | with_reducible apply Rd.alloc)) HH.out.2.1 HH.out.2.2)).mono ?_
    rintro e w2 ⟨rfl, b⟩
    have Sw2 := Lib.hid b.size
    have HB := Lib.hid (chain0 (w := w) (by repeat (first | with_reducible exact Below.refl _ _ | with_reducible exact HB.out | with_reducible apply Below.drew | with_reducible apply bdN | with_reducible refine Below.alloc ?_ (by first | exact Nat.le_refl _ | (simp; done) | (simp; omega) | (have := HB.out.size; simp at *; omega)) _ | with_reducible refine Below.setCell ?_ (by first | exact Nat.le_refl _ | (simp; done) | (simp; omega) | (have := HB.out.size; simp at *; omega)) _)) b)
    have HR := Lib.hid (Rd.below (by repeat (first | with_reducible exact HR.out | with_reducible apply Rd.drewN | with_reducible apply Rd.drew | with_reducible apply Rd.alloc)) b)
    clear b
    cases hc : capB l
    · go_wp2_with fail
      go_ret2
      exact ⟨ret_bb (by rw [HT.out, hc]; rfl), by repeat (first | with_reducible exact Below.refl _ _ | with_reducible exact HB.out | with_reducible apply Below.drew | with_reducible apply bdN | with_reducible refine Below.alloc ?_ (by first | exact Nat.le_refl _ | (simp; done) | (simp; omega) | (have := HB.out.size; simp at *; omega)) _ | with_reducible refine Below.setCell ?_ (by first | exact Nat.le_refl _ | (simp; done) | (simp; omega) | (have := HB.out.size; simp at *; omega)) _)⟩
    · go_wp2_with fail
      refine (free_numbers l p n cp _ HN.out h27 hcp (by repeat (first | with_reducible exact HR.out | with_reducible apply Rd.drewN | with_reducible apply Rd.drew | with_reducible apply Rd.alloc)) HH.out.2.1 HH.out.2.2).mono ?_
      rintro e w3 ⟨u, rfl, hu, b⟩
      obtain ⟨p1, c1, rfl, _⟩ := hu.form
      clear hu
      obtain ⟨m, hm⟩ : ∃ m, (nums (fre l) 81).length = m := ⟨_, rfl⟩
      have HM := Lib.hid hm
      rw [hm]
      clear hm
      have Sw3 := Lib.hid b.size
      have HB := Lib.hid (chain0 (w := w) (by repeat (first | with_reducible exact Below.refl _ _ | with_reducible exact HB.out | with_reducible apply Below.drew | with_reducible apply bdN | with_reducible refine Below.alloc ?_ (by first | exact Nat.le_refl _ | (simp; done) | (simp; omega) | (have := HB.out.size; simp at *; omega)) _ | with_reducible refine Below.setCell ?_ (by first | exact Nat.le_refl _ | (simp; done) | (simp; omega) | (have := HB.out.size; simp at *; omega)) _)) b)
      have HR := Lib.hid (Rd.below (by repeat (first | with_reducible exact HR.out | with_reducible apply Rd.drewN | with_reducible apply Rd.drew | with_reducible apply Rd.alloc)) b)
      clear b
      by_cases hm0 : m = 0
      · subst hm0
        go_wp2_with fail
        go_ret2
        exact ⟨ret_bb (by rw [HT.out, hc, HM.out]; rfl), by repeat (first | with_reducible exact Below.refl _ _ | with_reducible exact HB.out | with_reducible apply Below.drew | with_reducible apply bdN | with_reducible refine Below.alloc ?_ (by first | exact Nat.le_refl _ | (simp; done) | (simp; omega) | (have := HB.out.size; simp at *; omega)) _ | with_reducible refine Below.setCell ?_ (by first | exact Nat.le_refl _ | (simp; done) | (simp; omega) | (have := HB.out.size; simp at *; omega)) _)⟩
      · have hm1 : ((m : Int) == 0) = false := by simp; omega
        go_wp2_with fail
        go_ret2
        exact ⟨ret_bb (by rw [HT.out, hc, HM.out, decide_eq_false hm0]; rfl), by repeat (first | with_reducible exact Below.refl _ _ | with_reducible exact HB.out | with_reducible apply Below.drew | with_reducible apply bdN | with_reducible refine Below.alloc ?_ (by first | exact Nat.le_refl _ | (simp; done) | (simp; omega) | (have := HB.out.size; simp at *; omega)) _ | with_reducible refine Below.setCell ?_ (by first | exact Nat.le_refl _ | (simp; done) | (simp; omega) | (have := HB.out.size; simp at *; omega)) _)⟩
end Go.Proofs.Ytbimbaogjknboaa.cards
