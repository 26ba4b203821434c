/- MostInSpace: the model's. -/
import Derived.Test.YtdhcdogmbclhaaaOj
namespace Go.Proofs.Ytdhcdogmbclhaaa.planes
open Go.RowKit
open cards reg
set_option linter.unusedVariables false

set_option maxRecDepth 100000 in
set_option maxHeartbeats 1000000 in
theorem l2_atP (n : Int) (w : World) (h0 : 0 ≤ n) (h1 : n ≤ 80) :
    Calls Try.prog 70 #[.int .i64 n] w fun e w' => e = .returned (cdAt n).val ∧ Below w.heap.size w w' := by
  go_enter Try.func70, Try.ntmps70
  go_wp2_with fail
  exact bodyPost_ret (v := (cdAt n).val) (by simp [results, Try.results70, go_sem, cdAt, *]) rfl ⟨rfl, by repeat (first | with_reducible exact Below.refl _ _ | with_reducible exact HB.out | with_reducible apply Below.drew | with_reducible apply bdN | with_reducible refine Below.alloc ?_ (by first | exact Nat.le_refl _ | with_reducible exact HB.out.size | omega | (simp; done) | (simp; omega) | (have := HB.out.size; simp at *; omega)) _ | with_reducible refine Below.setCell ?_ (by first | exact Nat.le_refl _ | with_reducible exact HB.out.size | omega | (simp; done) | (simp; omega) | (have := HB.out.size; simp at *; omega)) _)⟩
theorem mst_more (l ws : List Cd) (x : Cd) : mst l (ws ++ [x]) = pkN l x (mst l ws) 3 := by
  unfold mst
  rw [List.foldl_append]
  rfl
/-- What lies in memory while the spaces are looked through. -/
structure MjW (w wr : World) (g3 g7 : Nat) (s : Ms) : Prop where
  res : Box wr g3 zero
  box : Box wr g7 s.wt
  below : Below w.heap.size w wr
  le : w.heap.size ≤ g3
  lt : g3 < g7
theorem MjW.next {w wr w1 : World} {g3 g7 : Nat} {s : Ms} (h : MjW w wr g3 g7 s) (b : Below wr.heap.size wr w1) : MjW w w1 g3 g7 s :=
  ⟨h.res.below b, h.box.below b, h.below.trans (b.mono h.below.size), h.le, h.lt⟩
theorem MjW.alloc {w wr : World} {g3 g7 : Nat} {s : Ms} (h : MjW w wr g3 g7 s) (o : Obj) : MjW w (wr.alloc o) g3 g7 s := h.next ((Below.refl _ _).alloc (Nat.le_refl _) o)
theorem MjW.keep {w wr : World} {g3 g7 : Nat} {s : Ms} (h : MjW w wr g3 g7 s) (s' : Ms) : MjW w ((((wr.setCell ⟨g7, 0, none⟩ (.int .i64 s'.wt.a)).setCell ⟨g7, 1, none⟩ (.int .i64 s'.wt.b)).setCell ⟨g7, 2, none⟩ (.int .i64 s'.wt.c)).setCell ⟨g7, 3, none⟩ (.int .i64 s'.wt.d)) g3 g7 s' := by
  have hg : wr.grownBy ((((wr.setCell ⟨g7, 0, none⟩ (.int .i64 s'.wt.a)).setCell ⟨g7, 1, none⟩ (.int .i64 s'.wt.b)).setCell ⟨g7, 2, none⟩ (.int .i64 s'.wt.c)).setCell ⟨g7, 3, none⟩ (.int .i64 s'.wt.d)) (some g7) :=
    World.grownBy.trans (World.grownBy.trans (World.grownBy.trans (grown_setV _ _ _ _) (grown_setV _ _ _ _)) (grown_setV _ _ _ _)) (grown_setV _ _ _ _)
  have hlt := h.lt
  have hle := h.le
  exact ⟨off_box h.res hg (by omega), Box.set_ h.box s'.wt, h.below.grown hg h.below.size (fun k hk => by injection hk with hk; omega), h.le, h.lt⟩

set_option maxRecDepth 100000 in
set_option maxHeartbeats 8000000 in
theorem spec_mi (l : List Cd) (p : Option Addr) (n cp : Nat) (w : World) (hn : l.length = n) (hl : n ≤ 1000000000) (hr : Rd w p (flat l)) (hcp : n ≤ cp) :
    Calls Try.prog 43 #[.slice p n cp] w fun e w' => e = .returned (.tuple #[.int .i64 (miR l).1.mo, (miR l).1.wt.val, .int .i64 (miR l).1.vl, .bool (miR l).2]) ∧ Below w.heap.size w w' := by
  have HN := Lib.hid hn
  have HI := Lib.hid (fun w hr => l2_hand l p n cp w hn hl hr)
  have HM : Hid (MjW w ((w.alloc zero.obj).alloc zero.obj) w.heap.size (w.heap.size + 1) ⟨-1, zero, 0⟩) := Lib.hid ⟨(Box.newAt rfl rfl).alloc _, Box.newAt (by simp) rfl, ((Below.refl _ _).alloc (Nat.le_refl _) _).alloc (by simp) _, Nat.le_refl _, by omega⟩
  have HR0 := Lib.hid hr
  clear hr hn
  go_enter Try.func43, Try.ntmps43
  go_upto_region 2 with fail
  obtain ⟨g7, hg7⟩ : ∃ g7, w.heap.size + 1 = g7 := ⟨_, rfl⟩
  rw [hg7] at HM
  try rw [hg7]
  clear hg7
  generalize (w.alloc zero.obj).alloc zero.obj = W at *
  cases hh : handB l
  · have HT := Lib.hid (show miR l = (⟨0, zero, 0⟩, false) by unfold miR; rw [if_neg (by simp [hh])])
    rw [hh] at HI
    clear hh
    go_wp2_with fail
    refine (HI.out _ (HR0.out.below HM.out.below)).mono ?_
    rintro e w1 ⟨rfl, b⟩
    have HM := Lib.hid (HM.out.next b)
    clear b
    obtain ⟨k3a, k3b, k3c, k3d⟩ := HM.out.res.cell
    have k3f := HM.out.res.frozen
    have k3z := HM.out.res.lt
    obtain ⟨k7a, k7b, k7c, k7d⟩ := HM.out.box.cell
    have k7z := HM.out.box.lt
    go_upto_region 3 with fail
    go_region
    have HB := Lib.hid (((((HM.out.below.setCell (p := ⟨w.heap.size, 0, none⟩) (Nat.le_refl _) (.int .i64 0)).setCell (p := ⟨w.heap.size, 1, none⟩) (Nat.le_refl _) (.int .i64 0)).setCell (p := ⟨w.heap.size, 2, none⟩) (Nat.le_refl _) (.int .i64 0)).setCell (p := ⟨w.heap.size, 3, none⟩) (Nat.le_refl _) (.int .i64 0)).drew)
    have K3 := Lib.hid (Box.drew (Box.set_ HM.out.res zero))
    clear k3a k3b k3c k3d k3f k7a k7b k7c k7d HM
    go_wp2_with fail
    try simp only [Exit.inBlock, Exit.then]
    refine bodyPost_ret (res_mi Try.results43 rfl K3.out) rfl ?_
    exact ⟨by rw [HT.out]; rfl, HB.out⟩
  · have HT := Lib.hid (show miR l = (mst l wts, true) by unfold miR; rw [if_pos hh])
    have HH := Lib.hid (handB_true.1 hh)
    rw [hh] at HI
    clear hh
    go_wp2_with fail
    refine (HI.out _ (HR0.out.below HM.out.below)).mono ?_
    rintro e w1 ⟨rfl, b⟩
    have HM := Lib.hid (HM.out.next b)
    clear b
    go_wp2_with fail
    go_loopw [6, 8, 9] (fun mv vv iv wr => ∃ (k : Nat) (s : Ms), k ≤ 81 ∧ iv = .int .i64 k ∧ mv = .int .i64 s.mo ∧ vv = .int .i64 s.vl ∧ Hid (s = mst l (cdsOf wtB k)) ∧ Hid (MjW w wr w.heap.size g7 s)) (fun _ _ iv _ => 81 - (intOf iv).toNat)
    case atStart => exact ⟨0, ⟨-1, zero, 0⟩, Nat.zero_le _, rfl, rfl, rfl, Lib.hid rfl, HM⟩
    case round =>
      clear HM
      obtain ⟨k, s, hk, rfl, rfl, rfl, HS, HM⟩ := hrel
      by_cases hkt : k < 81
      · have m0 : (0 : Int) ≤ (k : Int) := by omega
        have m1 : (k : Int) < 81 := by omega
        have HC := Lib.hid (cdAt_ok (n := (k : Int)) m0 (by omega))
        have HL := Lib.hid (fun w => l2_atP (k : Int) w m0 (by omega))
        have HY := Lib.hid (fun h => cdsOf_yes (P := wtB) (k := k) h)
        have HNo := Lib.hid (fun h => cdsOf_no (P := wtB) (k := k) h)
        obtain ⟨x, hx⟩ : ∃ x, cdAt (k : Int) = x := ⟨_, rfl⟩
        rw [hx] at HC HL HY HNo
        clear hx
        have HW := Lib.hid (fun w => l6_weight x w)
        go_wp2_with fail
        refine (HL.out _).mono ?_
        rintro e w2 ⟨rfl, b⟩
        have HM := Lib.hid (HM.out.next b)
        clear b
        have h7 := HM.out.box.lt
        have K1 : Hid (Box (w2.alloc x.obj) w2.heap.size x) := Lib.hid (Box.newAt rfl rfl)
        have HM := Lib.hid (HM.out.alloc x.obj)
        go_upto_region 8 with fail
        obtain ⟨gx, hgx⟩ : ∃ gx, w2.heap.size = gx := ⟨_, rfl⟩
        rw [hgx] at K1 h7
        try rw [hgx]
        clear hgx
        generalize w2.alloc x.obj = W2 at *
        obtain ⟨k1a, k1b, k1c, k1d⟩ := K1.out.cell
        have hne : gx ≠ g7 := by omega
        cases hw : wtB x
        · have HE := Lib.hid (HNo.out hw)
          rw [hw] at HW
          clear hw HY HNo
          go_wp2_with fail
          refine (HW.out _).mono ?_
          rintro e w3 ⟨rfl, b⟩
          have HM := Lib.hid (HM.out.next b)
          clear b k1a k1b k1c k1d
          go_wp2_with fail
          go_roundw
          case rel => exact ⟨k + 1, s, by omega, by go_num, rfl, rfl, Lib.hid (by rw [HE.out]; exact HS.out), HM⟩
          case measure => simp [intOf]; omega
        · have HE := Lib.hid (HY.out hw)
          have HE2 : Hid (mst l (cdsOf wtB (k + 1)) = pkN l x s 3) := Lib.hid (by rw [HE.out, mst_more, ← HS.out])
          rw [hw] at HW
          clear hw HY HNo HE
          go_wp2_with fail
          refine (HW.out _).mono ?_
          rintro e w3 ⟨rfl, b⟩
          have HM := Lib.hid (HM.out.next b)
          have K1 := Lib.hid (K1.out.below b)
          clear b k1a k1b k1c k1d
          obtain ⟨k1a, k1b, k1c, k1d⟩ := K1.out.cell
          go_wp2_with fail
          refine (l6_split l x p n cp _ HN.out (by have := HH.out.1; have := HN.out; omega) (HR0.out.below HM.out.below) HH.out.2.1 HC.out).mono ?_
          rintro e w4 ⟨rfl, b⟩
          have HM := Lib.hid ((HM.out.next b).alloc (.cells (q3 (splitF x l)) 46))
          have K1 := Lib.hid ((K1.out.below b).alloc (.cells (q3 (splitF x l)) 46))
          have KV : Hid (VB (w4.alloc (.cells (q3 (splitF x l)) 46)) w4.heap.size 46 (q3 (splitF x l))) := Lib.hid (VB.newAt rfl rfl)
          have h74 : g7 < w4.heap.size := by have := b.size; have := HM.out.box.lt; have h := K1.out.lt; simp at h; omega
          clear b k1a k1b k1c k1d
          go_upto_region 10 with fail
          obtain ⟨gv, hgv⟩ : ∃ gv, w4.heap.size = gv := ⟨_, rfl⟩
          rw [hgv] at KV h74
          try rw [hgv]
          clear hgv
          generalize w4.alloc (.cells (q3 (splitF x l)) 46) = W4 at *
          go_wp2_with fail
          go_loopw [6, 8, 12] (fun mv vv jv wq => ∃ (j : Nat) (s' : Ms), j ≤ 3 ∧ jv = .int .i64 j ∧ mv = .int .i64 s'.mo ∧ vv = .int .i64 s'.vl ∧ Hid (s' = pkN l x s j) ∧ Hid (MjW w wq w.heap.size g7 s') ∧ Hid (Box wq gx x) ∧ Hid (VB wq gv 46 (q3 (splitF x l)))) (fun _ _ jv _ => 3 - (intOf jv).toNat)
          case atStart => exact ⟨0, s, Nat.zero_le _, rfl, rfl, rfl, Lib.hid rfl, HM, K1, KV⟩
          case round =>
            clear HM K1 KV
            obtain ⟨j, s', hj, rfl, rfl, rfl, HS2, HM, K1, KV⟩ := hrel
            by_cases hjt : j < 3
            · have n0 : (0 : Int) ≤ (j : Int) := by omega
              have n1 : (j : Int) < 3 := by omega
              have hcv := KV.out.at_ (q3_at (splitF x l) hjt)
              have HP : Hid (pkN l x s (j + 1) = pk l x s' j) := Lib.hid (by rw [HS2.out]; rfl)
              by_cases hgt : s'.mo < splitF x l j
              · have HP2 := Lib.hid (HP.out.trans (by unfold pk; rw [if_pos hgt]))
                obtain ⟨v, hv⟩ : ∃ v, splitF x l j = v := ⟨_, rfl⟩
                rw [hv] at hgt HP2 hcv
                have HM2 := Lib.hid (HM.out.keep ⟨v, x, j⟩)
                clear hv HP
                obtain ⟨k1a, k1b, k1c, k1d⟩ := K1.out.cell
                obtain ⟨k7a, k7b, k7c, k7d⟩ := HM.out.box.cell
                have k7f := HM.out.box.frozen
                have k7z := HM.out.box.lt
                have hgv : gv ≠ g7 := by omega
                go_wp2_with fail
                have K13 : Hid (Box ((((wr.setCell ⟨g7, 0, none⟩ (.int .i64 x.a)).setCell ⟨g7, 1, none⟩ (.int .i64 x.b)).setCell ⟨g7, 2, none⟩ (.int .i64 x.c)).setCell ⟨g7, 3, none⟩ (.int .i64 x.d)) gx x) := Lib.hid ((((K1.out.far hne _).far hne _).far hne _).far hne _)
                have KV3 : Hid (VB ((((wr.setCell ⟨g7, 0, none⟩ (.int .i64 x.a)).setCell ⟨g7, 1, none⟩ (.int .i64 x.b)).setCell ⟨g7, 2, none⟩ (.int .i64 x.c)).setCell ⟨g7, 3, none⟩ (.int .i64 x.d)) gv 46 (q3 (splitF x l))) := Lib.hid ((((KV.out.far hgv _).far hgv _).far hgv _).far hgv _)
                go_roundw
                case rel => exact ⟨j + 1, ⟨v, x, j⟩, by omega, by go_num, rfl, rfl, Lib.hid HP2.out.symm, HM2, K13, KV3⟩
                case measure => simp [intOf]; omega
              · have HP2 := Lib.hid (HP.out.trans (by unfold pk; rw [if_neg hgt]))
                obtain ⟨v, hv⟩ : ∃ v, splitF x l j = v := ⟨_, rfl⟩
                rw [hv] at hgt hcv
                clear hv HP
                go_wp2_with fail
                go_roundw
                case rel => exact ⟨j + 1, s', by omega, by go_num, rfl, rfl, Lib.hid HP2.out.symm, HM, K1, KV⟩
                case measure => simp [intOf]; omega
            · obtain rfl : j = 3 := by omega
              go_wp2_with fail
              go_roundw
              case rel => exact ⟨k + 1, s', by omega, by go_num, rfl, rfl, Lib.hid (by rw [HE2.out]; exact HS2.out), HM⟩
              case measure => simp [intOf]; omega
      · obtain rfl : k = 81 := by omega
        have HS3 : Hid (s = mst l wts) := HS
        obtain ⟨k3a, k3b, k3c, k3d⟩ := HM.out.res.cell
        have k3f := HM.out.res.frozen
        have k3z := HM.out.res.lt
        obtain ⟨k7a, k7b, k7c, k7d⟩ := HM.out.box.cell
        have k7z := HM.out.box.lt
        go_upto_region 17 with fail
        go_region
        have HB := Lib.hid (((((HM.out.below.setCell (p := ⟨w.heap.size, 0, none⟩) (Nat.le_refl _) (.int .i64 s.wt.a)).setCell (p := ⟨w.heap.size, 1, none⟩) (Nat.le_refl _) (.int .i64 s.wt.b)).setCell (p := ⟨w.heap.size, 2, none⟩) (Nat.le_refl _) (.int .i64 s.wt.c)).setCell (p := ⟨w.heap.size, 3, none⟩) (Nat.le_refl _) (.int .i64 s.wt.d)).drew)
        have K3 := Lib.hid (Box.drew (Box.set_ HM.out.res s.wt))
        clear k3a k3b k3c k3d k3f k7a k7b k7c k7d HM
        generalize (((((wr.setCell ⟨w.heap.size, 0, none⟩ (.int .i64 s.wt.a)).setCell ⟨w.heap.size, 1, none⟩ (.int .i64 s.wt.b)).setCell ⟨w.heap.size, 2, none⟩ (.int .i64 s.wt.c)).setCell ⟨w.heap.size, 3, none⟩ (.int .i64 s.wt.d)).drew) = w8 at *
        go_wp2_with fail
        try simp only [Exit.inBlock, Exit.then]
        refine bodyPost_ret (res_mi Try.results43 rfl K3.out) rfl ?_
        exact ⟨by rw [HT.out, ← HS3.out]; rfl, HB.out⟩
end Go.Proofs.Ytdhcdogmbclhaaa.planes
