/- NearLines: the program and the model. -/
import Derived.Test.YtjmlefcmhjodeaaXn
import Derived.Test.YtjmlefcmhjodeaaZg
import Derived.Test.YtjmlefcmhjodeaaAt
import Derived.Deep.DeepCutAuto
namespace Go.Proofs.Ytjmlefcmhjodeaa.others
open Go.RowKit
open cards
set_option linter.unusedVariables false

set_option maxRecDepth 100000 in
set_option maxHeartbeats 8000000 in
theorem spec_near (l : List Cd) (p : Option Addr) (n cp : Nat) (w : World) (hn : l.length = n) (hl : n ≤ 1000000000) (hr : Rd w p (flat l)) :
    Calls Try.prog 39 #[.slice p n cp] w fun e w' => ∃ u, e = .returned (.tuple #[u, .bool (nearR l).2]) ∧ OwnA3 w' w.heap.size u (nearR l).1 ∧ Below w.heap.size w w' := by
  have HN := Lib.hid hn
  have HR0 := Lib.hid hr
  clear hn hr
  have HO0 := Lib.hid (OwnA3.empty w w.heap.size (Nat.le_refl _))
  have HB : Hid (Below w.heap.size w (w.alloc (.cells #[] 66))) := Lib.hid ((Below.refl _ _).alloc (Nat.le_refl _) _)
  go_enter Try.func39, Try.ntmps39
  go_upto_region 2 with fail
  generalize w.alloc (.cells #[] 66) = W at *
  obtain ⟨g, hg⟩ : ∃ g, w.heap.size = g := ⟨_, rfl⟩
  have HGe := Lib.hid hg
  rw [hg] at HO0
  try rw [hg]
  clear hg
  go_wp2_with fail
  refine (l2_hand l p n cp _ HN.out hl (HR0.out.below HB.out)).mono ?_
  rintro e w1 ⟨rfl, b⟩
  have Sw1 := Lib.hid b.size
  have HB := Lib.hid (chain0 (w := w) (by repeat (first | with_reducible exact Below.refl _ _ | with_reducible exact HB.out | with_reducible apply Below.drew | with_reducible apply bdN | with_reducible refine Below.alloc ?_ (by first | exact Nat.le_refl _ | with_reducible exact HB.out.size | omega | (simp; done) | (simp; omega) | (have := HB.out.size; simp at *; omega)) _ | with_reducible refine Below.setCell ?_ (by first | exact Nat.le_refl _ | with_reducible exact HB.out.size | omega | (simp; done) | (simp; omega) | (have := HB.out.size; simp at *; omega)) _)) b)
  have HO0 := Lib.hid (OwnA3.below (by repeat (first | with_reducible exact HO0.out | with_reducible apply OwnA3.drewN | with_reducible apply OwnA3.drew | with_reducible apply OwnA3.alloc)) b)
  clear b
  cases hh : handB l
  · have HT := Lib.hid (show nearR l = ([], false) by unfold nearR; rw [if_neg (by simp [hh])])
    clear hh
    go_wp2_with fail
    go_ret2
    exact ⟨_, ret_two (by rw [HT.out]), by rw [HT.out, HGe.out]; exact HO0.out, HB.out⟩
  · have HT := Lib.hid (show nearR l = (allN l n, true) by unfold nearR; rw [if_pos hh, HN.out])
    have HH := Lib.hid (handB_true.1 hh)
    have HK := Lib.hid HH.out.2.1
    have h27 : n ≤ 27 := by have := HH.out.1; have := HN.out; omega
    clear hh
    go_wp2_with fail
    go_loopw [4, 5, 6, 7] (fun o i _ _ wr => ∃ k : Nat, k ≤ n ∧ i = .int .i64 k ∧ Hid (OwnA3 wr w.heap.size o (allN l k)) ∧ Hid (Below w.heap.size w wr)) (fun _ i _ _ _ => n - (intOf i).toNat)
    case atStart => exact ⟨0, Nat.zero_le _, rfl, by rw [HGe.out]; exact HO0, HB⟩
    case round =>
      clear HB HO0
      obtain ⟨i, hi, rfl, HO, HB⟩ := hrel
      have i0 : (0 : Int) ≤ (i : Int) := by omega
      by_cases hlt : i < n
      · have i1 : (i : Int) < (n : Int) := by omega
        obtain ⟨b, o, x, rfl, hb, hx, c0, c1, c2, c3⟩ := (HR0.out.below HB.out).card (k := i) (by rw [HN.out]; omega)
        have HX := Lib.hid hx
        have HBb : Hid (b < w.heap.size) := Lib.hid (by
          obtain ⟨b', o', x', hbo, hb', _⟩ := HR0.out.card (k := i) (by rw [HN.out]; exact hlt)
          injection hbo with hbo
          injection hbo with e1 e2
          omega)
        clear hx
        clear c0 c1 c2 c3
        obtain ⟨wo, HWo⟩ : ∃ wo : World, Hid (wo = wr) := ⟨_, rfl⟩
        go_wp2_with fail
        go_loopw [4, 6, 7] (fun o j _ wr => ∃ k : Nat, k ≤ n ∧ i < k ∧ j = .int .i64 k ∧ Hid (OwnA3 wr w.heap.size o (allN l i ++ nRow1 l i k)) ∧ Hid (Below w.heap.size w wr)) (fun _ j _ _ => n - (intOf j).toNat)
        case atStart => exact ⟨i + 1, by omega, by omega, by go_num, by rw [nRow1_low (Nat.le_refl _), List.append_nil]; exact HO, HB⟩
        case round =>
          clear HB HO
          obtain ⟨j, hj, hij, rfl, HO, HB⟩ := hrel
          have j0 : (0 : Int) ≤ (j : Int) := by omega
          by_cases hjt : j < n
          · have j1 : (j : Int) < (n : Int) := by omega
            obtain ⟨wo2, HWo2⟩ : ∃ wo : World, Hid (wo = wr) := ⟨_, rfl⟩
            go_wp2_with fail
            go_loopw [4, 7] (fun o m wr => ∃ k : Nat, k ≤ n ∧ j < k ∧ m = .int .i64 k ∧ Hid (OwnA3 wr w.heap.size o (allN l i ++ nRow1 l i j ++ nRow2 l i j k)) ∧ Hid (Below w.heap.size w wr)) (fun _ m _ => n - (intOf m).toNat)
            case atStart => exact ⟨j + 1, by omega, by omega, by go_num, by rw [nRow2_low (Nat.le_refl _), List.append_nil]; exact HO, HB⟩
            case round =>
              clear HB HO
              obtain ⟨k, hk, hjk, rfl, HO, HB⟩ := hrel
              have k0 : (0 : Int) ≤ (k : Int) := by omega
              by_cases hkt : k < n
              · have k1 : (k : Int) < (n : Int) := by omega
                have HR := HR0.out.below HB.out
                obtain ⟨y, hy⟩ : ∃ y, l[j]? = some y := ⟨_, List.getElem?_eq_getElem (by rw [HN.out]; exact hjt)⟩
                obtain ⟨z, hz⟩ : ∃ z, l[k]? = some z := ⟨_, List.getElem?_eq_getElem (by rw [HN.out]; exact hkt)⟩
                obtain ⟨c0, c1, c2, c3⟩ := HR.at_ HX.out
                obtain ⟨d0, d1, d2, d3⟩ := HR.at_ hy
                obtain ⟨e0, e1, e2, e3⟩ := HR.at_ hz
                have HXo := Lib.hid (ok_at HK.out HX.out)
                have HYo := Lib.hid (ok_at HK.out hy)
                have HZo := Lib.hid (ok_at HK.out hz)
                have HLn := Lib.hid (near_part HN.out h27 (i := i) (j := j) (k := k) (by omega) (by omega) (by omega) i j)
                have HYes := Lib.hid (fun h => nRow2_yes (l := l) hjk HX.out hy hz h)
                have HNo := Lib.hid (fun h => nRow2_no (l := l) hjk HX.out hy hz h)
                have HG := fun w => l10_good x y z w HXo.out HYo.out HZo.out
                clear hy hz HR
                obtain ⟨d, hd⟩ : ∃ d, good x y z = d := ⟨_, rfl⟩
                rw [hd] at HG HYes HNo
                replace HG := Lib.hid HG
                clear hd
                cases hs : (d == 3)
                · have HF := Lib.hid (HNo.out hs)
                  go_wp2_with fail
                  have qc0 := fun d os => cell_regrown c0 d os
                  have qc1 := fun d os => cell_regrown c1 d os
                  have qc2 := fun d os => cell_regrown c2 d os
                  have qc3 := fun d os => cell_regrown c3 d os
                  have qd0 := fun d os => cell_regrown d0 d os
                  have qd1 := fun d os => cell_regrown d1 d os
                  have qd2 := fun d os => cell_regrown d2 d os
                  have qd3 := fun d os => cell_regrown d3 d os
                  have qe0 := fun d os => cell_regrown e0 d os
                  have qe1 := fun d os => cell_regrown e1 d os
                  have qe2 := fun d os => cell_regrown e2 d os
                  have qe3 := fun d os => cell_regrown e3 d os
                  refine wp_region_quiet_below (by kernel_rfl) (by kernel_rfl) ?_
                  repeat (first | go_big_quiet_step ((go_at_call 71; with_reducible exact Calls.regrown_of (HG.out _))) | quiet_step ((go_at_call 71; with_reducible exact Calls.regrown_of (HG.out _))))
                  refine wpQuiet_nil ?_
                  intro w5 hw2
                  have b : Below wr.heap.size wr w5 := by obtain ⟨r, hr⟩ := hw2; rw [hr]; exact below_regrown _ _ _
                  clear hw2 qc0 qc1 qc2 qc3 qd0 qd1 qd2 qd3 qe0 qe1 qe2 qe3
                  have Sw5 := Lib.hid b.size
                  have HB := Lib.hid (chain0 (w := w) (by repeat (first | with_reducible exact Below.refl _ _ | with_reducible exact HB.out | with_reducible apply Below.drew | with_reducible apply bdN | with_reducible refine Below.alloc ?_ (by first | exact Nat.le_refl _ | with_reducible exact HB.out.size | omega | (simp; done) | (simp; omega) | (have := HB.out.size; simp at *; omega)) _ | with_reducible refine Below.setCell ?_ (by first | exact Nat.le_refl _ | with_reducible exact HB.out.size | omega | (simp; done) | (simp; omega) | (have := HB.out.size; simp at *; omega)) _)) b)
                  have HO := Lib.hid (OwnA3.below (by repeat (first | with_reducible exact HO.out | with_reducible apply OwnA3.drewN | with_reducible apply OwnA3.drew | with_reducible apply OwnA3.alloc)) b)
                  clear b
                  clear c0 c1 c2 c3 d0 d1 d2 d3 e0 e1 e2 e3
                  go_wp2_with fail
                  go_roundw
                  case rel => exact ⟨k + 1, by omega, by omega, by go_num, by rw [HF.out]; exact HO, HB⟩
                  case measure => simp [intOf]; omega
                · have HF := Lib.hid (HYes.out hs)
                  go_wp2_with fail
                  have qc0 := fun d os => cell_regrown c0 d os
                  have qc1 := fun d os => cell_regrown c1 d os
                  have qc2 := fun d os => cell_regrown c2 d os
                  have qc3 := fun d os => cell_regrown c3 d os
                  have qd0 := fun d os => cell_regrown d0 d os
                  have qd1 := fun d os => cell_regrown d1 d os
                  have qd2 := fun d os => cell_regrown d2 d os
                  have qd3 := fun d os => cell_regrown d3 d os
                  have qe0 := fun d os => cell_regrown e0 d os
                  have qe1 := fun d os => cell_regrown e1 d os
                  have qe2 := fun d os => cell_regrown e2 d os
                  have qe3 := fun d os => cell_regrown e3 d os
                  refine wp_region_quiet_below (by kernel_rfl) (by kernel_rfl) ?_
                  repeat (first | go_big_quiet_step ((go_at_call 71; with_reducible exact Calls.regrown_of (HG.out _))) | quiet_step ((go_at_call 71; with_reducible exact Calls.regrown_of (HG.out _))))
                  refine wpQuiet_nil ?_
                  intro w5 hw2
                  have b : Below wr.heap.size wr w5 := by obtain ⟨r, hr⟩ := hw2; rw [hr]; exact below_regrown _ _ _
                  clear hw2 qc0 qc1 qc2 qc3 qd0 qd1 qd2 qd3 qe0 qe1 qe2 qe3
                  have Sw5 := Lib.hid b.size
                  have HB := Lib.hid (chain0 (w := w) (by repeat (first | with_reducible exact Below.refl _ _ | with_reducible exact HB.out | with_reducible apply Below.drew | with_reducible apply bdN | with_reducible refine Below.alloc ?_ (by first | exact Nat.le_refl _ | with_reducible exact HB.out.size | omega | (simp; done) | (simp; omega) | (have := HB.out.size; simp at *; omega)) _ | with_reducible refine Below.setCell ?_ (by first | exact Nat.le_refl _ | with_reducible exact HB.out.size | omega | (simp; done) | (simp; omega) | (have := HB.out.size; simp at *; omega)) _)) b)
                  have HO := Lib.hid (OwnA3.below (by repeat (first | with_reducible exact HO.out | with_reducible apply OwnA3.drewN | with_reducible apply OwnA3.drew | with_reducible apply OwnA3.alloc)) b)
                  clear b
                  clear c0 c1 c2 c3 d0 d1 d2 d3 e0 e1 e2 e3
                  go_wp2_with (at_builtin; refine append_A3 rfl (.tmp 49) (.tmp 54) rfl w.heap.size _ (allN l i ++ nRow1 l i j ++ nRow2 l i j k) ⟨(i : Int), (j : Int), (k : Int)⟩ _ _ rfl rfl rfl HO.out (by have := HLn.out; omega) HB.out.size ?_; intro v1 w6 hO1 hB1)
                  rw [List.append_assoc, ← HF.out] at hO1
                  go_roundw
                  case rel => exact ⟨k + 1, by omega, by omega, by go_num, hO1, HB.out.trans hB1⟩
                  case measure => simp [intOf]; omega
              · obtain rfl : k = n := by omega
                go_wp2_with fail
                go_roundw
                case rel => exact ⟨j + 1, by omega, by omega, by go_num, by rw [nRow1_step hij, ← List.append_assoc, HN.out]; exact HO, HB⟩
                case measure => simp [intOf]; omega
          · obtain rfl : j = n := by omega
            go_wp2_with fail
            go_roundw
            case rel => exact ⟨i + 1, by omega, by go_num, by rw [show allN l (i + 1) = allN l i ++ nRow1 l i l.length from rfl, HN.out]; exact HO, HB⟩
            case measure => simp [intOf]; omega
      · obtain rfl : i = n := by omega
        go_wp2_with fail
        go_ret2
        exact ⟨_, ret_two (by rw [HT.out]), by rw [HT.out]; exact HO.out, HB.out⟩

set_option maxRecDepth 100000 in
set_option maxHeartbeats 8000000 in
theorem impl_near (l : List Cd) (p : Option Addr) (n cp : Nat) (w : World) (hn : l.length = n) (hl : n ≤ 1000000000) (hr : Rd w p (flat l)) :
    Calls Try.prog 40 #[.slice p n cp] w fun e w' => ∃ u, e = .returned (.tuple #[u, .bool (nearR l).2]) ∧ OwnA3 w' w.heap.size u (nearR l).1 ∧ Below w.heap.size w w' := by
  have HN := Lib.hid hn
  have HR0 := Lib.hid hr
  clear hn hr
  go_enter Try.func40, Try.ntmps40
  go_wp2_with fail
  refine (is_hand l p n cp _ HN.out hl HR0.out).mono ?_
  rintro e w1 ⟨rfl, b⟩
  have HB := Lib.hid b
  clear b
  cases hh : handB l
  · have HT := Lib.hid (show nearR l = ([], false) by unfold nearR; rw [if_neg (by simp [hh])])
    clear hh
    go_wp2_with fail
    go_ret2
    exact ⟨_, ret_two (by rw [HT.out]), by rw [HT.out]; exact OwnA3.empty _ _ HB.out.size, by repeat (first | with_reducible exact Below.refl _ _ | with_reducible exact HB.out | with_reducible apply Below.drew | with_reducible apply bdN | with_reducible refine Below.alloc ?_ (by first | exact Nat.le_refl _ | with_reducible exact HB.out.size | omega | (simp; done) | (simp; omega) | (have := HB.out.size; simp at *; omega)) _ | with_reducible refine Below.setCell ?_ (by first | exact Nat.le_refl _ | with_reducible exact HB.out.size | omega | (simp; done) | (simp; omega) | (have := HB.out.size; simp at *; omega)) _)⟩
  · have HT := Lib.hid (show nearR l = (allN l n, true) by unfold nearR; rw [if_pos hh, HN.out])
    have HH := Lib.hid (handB_true.1 hh)
    have HK := Lib.hid HH.out.2.1
    have h27 : n ≤ 27 := by have := HH.out.1; have := HN.out; omega
    clear hh
    have HO0 := Lib.hid (OwnA3.empty w1 w.heap.size HB.out.size)
    have HB0 := Lib.hid (HB.out.alloc HB.out.size (.cells #[] 66))
    obtain ⟨g, hg⟩ : ∃ g, w1.heap.size = g := ⟨_, rfl⟩
    rw [hg] at HO0
    clear hg
    go_wp2_with fail
    go_loopw [4, 5, 6, 7, 8, 16] (fun o _ _ _ _ i wr => ∃ k : Nat, k ≤ n ∧ i = .int .i64 k ∧ Hid (OwnA3 wr w.heap.size o (allN l k)) ∧ Hid (Below w.heap.size w wr)) (fun _ _ _ _ _ i _ => n - (intOf i).toNat)
    case atStart => exact ⟨0, Nat.zero_le _, rfl, by first | exact HO0 | (rw [show w1.heap.size = g from by assumption]; exact HO0) | exact Lib.hid (OwnA3.empty _ _ HB.out.size), Lib.hid (HB.out.alloc HB.out.size _)⟩
    case round =>
      clear HB HO0 HB0
      obtain ⟨i, hi, rfl, HO, HB⟩ := hrel
      have i0 : (0 : Int) ≤ (i : Int) := by omega
      by_cases hlt : i < n
      · have i1 : (i : Int) < (n : Int) := by omega
        obtain ⟨b, o, x, rfl, hb, hx, c0, c1, c2, c3⟩ := (HR0.out.below HB.out).card (k := i) (by rw [HN.out]; omega)
        have HX := Lib.hid hx
        have HBb : Hid (b < w.heap.size) := Lib.hid (by
          obtain ⟨b', o', x', hbo, hb', _⟩ := HR0.out.card (k := i) (by rw [HN.out]; exact hlt)
          injection hbo with hbo
          injection hbo with e1 e2
          omega)
        clear hx
        have HKb : Hid (Box (wr.alloc x.obj) wr.heap.size x) := Lib.hid (Box.newAt rfl rfl)
        have HOb := Lib.hid (OwnA3.alloc HO.out x.obj)
        have HBb2 := Lib.hid (HB.out.alloc HB.out.size x.obj)
        have HGz := Lib.hid HB.out.size
        have HAq := Lib.hid (fun k hk => Nat.ne_of_lt (OwnA3.span HO.out k hk).2)
        obtain ⟨q, hq⟩ : ∃ q, wr.heap.size = q := ⟨_, rfl⟩
        go_upto_region 8 with fail
        rw [hq] at HKb HGz HAq
        try rw [hq]
        generalize wr.alloc x.obj = wx at *
        clear hq HO HB c0 c1 c2 c3
        go_wp2_with fail
        go_loopw [4, 7, 8] (fun o j _ wr => ∃ k : Nat, k ≤ n ∧ i < k ∧ j = .int .i64 k ∧ Hid (OwnA3 wr w.heap.size o (allN l i ++ nRow1 l i k)) ∧ Hid (Below w.heap.size w wr) ∧ Hid (Box wr q x) ∧ Hid (∀ k, o.ownBlock = some k → k ≠ q)) (fun _ j _ _ => n - (intOf j).toNat)
        case atStart => exact ⟨i + 1, by omega, by omega, by go_num, by rw [nRow1_low (Nat.le_refl _), List.append_nil]; exact HOb, HBb2, HKb, HAq⟩
        case round =>
          clear HOb HBb2 HKb HAq
          obtain ⟨j, hj, hij, rfl, HO, HB, K0, HA⟩ := hrel
          have j0 : (0 : Int) ≤ (j : Int) := by omega
          by_cases hjt : j < n
          · have j1 : (j : Int) < (n : Int) := by omega
            obtain ⟨wo2, HWo2⟩ : ∃ wo : World, Hid (wo = wr) := ⟨_, rfl⟩
            go_wp2_with fail
            go_loopw [4, 8] (fun o m wr => ∃ k : Nat, k ≤ n ∧ j < k ∧ m = .int .i64 k ∧ Hid (OwnA3 wr w.heap.size o (allN l i ++ nRow1 l i j ++ nRow2 l i j k)) ∧ Hid (Below w.heap.size w wr) ∧ Hid (Box wr q x) ∧ Hid (∀ k, o.ownBlock = some k → k ≠ q)) (fun _ m _ => n - (intOf m).toNat)
            case atStart => exact ⟨j + 1, by omega, by omega, by go_num, by rw [nRow2_low (Nat.le_refl _), List.append_nil]; exact HO, HB, K0, HA⟩
            case round =>
              clear HB HO K0 HA
              obtain ⟨k, hk, hjk, rfl, HO, HB, K0, HA⟩ := hrel
              have k0 : (0 : Int) ≤ (k : Int) := by omega
              by_cases hkt : k < n
              · have k1 : (k : Int) < (n : Int) := by omega
                have HR := HR0.out.below HB.out
                obtain ⟨y, hy⟩ : ∃ y, l[j]? = some y := ⟨_, List.getElem?_eq_getElem (by rw [HN.out]; exact hjt)⟩
                obtain ⟨z, hz⟩ : ∃ z, l[k]? = some z := ⟨_, List.getElem?_eq_getElem (by rw [HN.out]; exact hkt)⟩
                obtain ⟨c0, c1, c2, c3⟩ := HR.at_ HX.out
                obtain ⟨d0, d1, d2, d3⟩ := HR.at_ hy
                obtain ⟨e0, e1, e2, e3⟩ := HR.at_ hz
                have HXo := Lib.hid (ok_at HK.out HX.out)
                have HYo := Lib.hid (ok_at HK.out hy)
                have HZo := Lib.hid (ok_at HK.out hz)
                have HLn := Lib.hid (near_part HN.out h27 (i := i) (j := j) (k := k) (by omega) (by omega) (by omega) i j)
                have HYes := Lib.hid (fun h => nRow2_yes (l := l) hjk HX.out hy hz h)
                have HNo := Lib.hid (fun h => nRow2_no (l := l) hjk HX.out hy hz h)
                have HG := fun w => fitting_of x y z w HXo.out HYo.out HZo.out
                rw [good_fit HXo.out HYo.out HZo.out] at HG
                clear hy hz HR
                obtain ⟨c0, c1, c2, c3⟩ := K0.out.cell
                obtain ⟨d, hd⟩ : ∃ d, good x y z = d := ⟨_, rfl⟩
                rw [hd] at HG HYes HNo
                replace HG := Lib.hid HG
                clear hd
                cases hs : (d == 3)
                · have HF := Lib.hid (HNo.out hs)
                  go_wp2_with fail
                  have qc0 := fun d os => cell_regrown c0 d os
                  have qc1 := fun d os => cell_regrown c1 d os
                  have qc2 := fun d os => cell_regrown c2 d os
                  have qc3 := fun d os => cell_regrown c3 d os
                  have qd0 := fun d os => cell_regrown d0 d os
                  have qd1 := fun d os => cell_regrown d1 d os
                  have qd2 := fun d os => cell_regrown d2 d os
                  have qd3 := fun d os => cell_regrown d3 d os
                  have qe0 := fun d os => cell_regrown e0 d os
                  have qe1 := fun d os => cell_regrown e1 d os
                  have qe2 := fun d os => cell_regrown e2 d os
                  have qe3 := fun d os => cell_regrown e3 d os
                  refine wp_region_quiet_below (by kernel_rfl) (by kernel_rfl) ?_
                  repeat (first | go_big_quiet_step ((go_at_call 72; with_reducible exact Calls.regrown_of (HG.out _))) | quiet_step ((go_at_call 72; with_reducible exact Calls.regrown_of (HG.out _))))
                  refine wpQuiet_nil ?_
                  intro w5 hw2
                  have b : Below wr.heap.size wr w5 := by obtain ⟨r, hr⟩ := hw2; rw [hr]; exact below_regrown _ _ _
                  clear hw2 qc0 qc1 qc2 qc3 qd0 qd1 qd2 qd3 qe0 qe1 qe2 qe3
                  have Sw5 := Lib.hid b.size
                  have HB := Lib.hid (chain0 (w := w) (by repeat (first | with_reducible exact Below.refl _ _ | with_reducible exact HB.out | with_reducible apply Below.drew | with_reducible apply bdN | with_reducible refine Below.alloc ?_ (by first | exact Nat.le_refl _ | with_reducible exact HB.out.size | omega | (simp; done) | (simp; omega) | (have := HB.out.size; simp at *; omega)) _ | with_reducible refine Below.setCell ?_ (by first | exact Nat.le_refl _ | with_reducible exact HB.out.size | omega | (simp; done) | (simp; omega) | (have := HB.out.size; simp at *; omega)) _)) b)
                  have HO := Lib.hid (OwnA3.below (by repeat (first | with_reducible exact HO.out | with_reducible apply OwnA3.drewN | with_reducible apply OwnA3.drew | with_reducible apply OwnA3.alloc)) b)
                  have K0 := Lib.hid (Box.below (by repeat (first | with_reducible exact K0.out | with_reducible apply Box.drewN | with_reducible apply Box.drew | with_reducible apply Box.alloc)) b)
                  clear b
                  clear c0 c1 c2 c3 d0 d1 d2 d3 e0 e1 e2 e3
                  go_wp2_with fail
                  go_roundw
                  case rel => exact ⟨k + 1, by omega, by omega, by go_num, by rw [HF.out]; exact HO, HB, K0, HA⟩
                  case measure => simp [intOf]; omega
                · have HF := Lib.hid (HYes.out hs)
                  go_wp2_with fail
                  have qc0 := fun d os => cell_regrown c0 d os
                  have qc1 := fun d os => cell_regrown c1 d os
                  have qc2 := fun d os => cell_regrown c2 d os
                  have qc3 := fun d os => cell_regrown c3 d os
                  have qd0 := fun d os => cell_regrown d0 d os
                  have qd1 := fun d os => cell_regrown d1 d os
                  have qd2 := fun d os => cell_regrown d2 d os
                  have qd3 := fun d os => cell_regrown d3 d os
                  have qe0 := fun d os => cell_regrown e0 d os
                  have qe1 := fun d os => cell_regrown e1 d os
                  have qe2 := fun d os => cell_regrown e2 d os
                  have qe3 := fun d os => cell_regrown e3 d os
                  refine wp_region_quiet_below (by kernel_rfl) (by kernel_rfl) ?_
                  repeat (first | go_big_quiet_step ((go_at_call 72; with_reducible exact Calls.regrown_of (HG.out _))) | quiet_step ((go_at_call 72; with_reducible exact Calls.regrown_of (HG.out _))))
                  refine wpQuiet_nil ?_
                  intro w5 hw2
                  have b : Below wr.heap.size wr w5 := by obtain ⟨r, hr⟩ := hw2; rw [hr]; exact below_regrown _ _ _
                  clear hw2 qc0 qc1 qc2 qc3 qd0 qd1 qd2 qd3 qe0 qe1 qe2 qe3
                  have Sw5 := Lib.hid b.size
                  have HB := Lib.hid (chain0 (w := w) (by repeat (first | with_reducible exact Below.refl _ _ | with_reducible exact HB.out | with_reducible apply Below.drew | with_reducible apply bdN | with_reducible refine Below.alloc ?_ (by first | exact Nat.le_refl _ | with_reducible exact HB.out.size | omega | (simp; done) | (simp; omega) | (have := HB.out.size; simp at *; omega)) _ | with_reducible refine Below.setCell ?_ (by first | exact Nat.le_refl _ | with_reducible exact HB.out.size | omega | (simp; done) | (simp; omega) | (have := HB.out.size; simp at *; omega)) _)) b)
                  have HO := Lib.hid (OwnA3.below (by repeat (first | with_reducible exact HO.out | with_reducible apply OwnA3.drewN | with_reducible apply OwnA3.drew | with_reducible apply OwnA3.alloc)) b)
                  have K0 := Lib.hid (Box.below (by repeat (first | with_reducible exact K0.out | with_reducible apply Box.drewN | with_reducible apply Box.drew | with_reducible apply Box.alloc)) b)
                  clear b
                  clear c0 c1 c2 c3 d0 d1 d2 d3 e0 e1 e2 e3
                  go_wp2_with (at_builtin; refine append_A3_at rfl (.tmp 48) (.tmp 53) rfl w.heap.size _ (allN l i ++ nRow1 l i j ++ nRow2 l i j k) ⟨(i : Int), (j : Int), (k : Int)⟩ _ _ rfl rfl rfl HO.out (by have := HLn.out; omega) HB.out.size ?_; intro v1 w6 hO1 hB1 hG1 hA1)
                  rw [List.append_assoc, ← HF.out] at hO1
                  have hK1 : Box w6 q x := Box.past K0.out hG1 HA.out
                  have hA2 : ∀ k, v1.ownBlock = some k → k ≠ q := fun k hk => by
                    rcases hA1 with e | e
                    · exact HA.out k (e.symm.trans hk)
                    · rw [e] at hk; injection hk with hk; have := K0.out.lt; omega
                  clear hA1
                  go_roundw
                  case rel => exact ⟨k + 1, by omega, by omega, by go_num, hO1, HB.out.trans hB1, hK1, hA2⟩
                  case measure => simp [intOf]; omega
              · obtain rfl : k = n := by omega
                go_wp2_with fail
                go_roundw
                case rel => exact ⟨j + 1, by omega, by omega, by go_num, by rw [nRow1_step hij, ← List.append_assoc, HN.out]; exact HO, HB, K0, HA⟩
                case measure => simp [intOf]; omega
          · obtain rfl : j = n := by omega
            go_wp2_with fail
            go_roundw
            case rel => exact ⟨i + 1, by omega, by go_num, by rw [show allN l (i + 1) = allN l i ++ nRow1 l i l.length from rfl, HN.out]; exact HO, HB⟩
            case measure => simp [intOf]; omega
      · obtain rfl : i = n := by omega
        go_wp2_with fail
        go_ret2
        exact ⟨_, ret_two (by rw [HT.out]), by rw [HT.out]; exact HO.out, HB.out⟩

end Go.Proofs.Ytjmlefcmhjodeaa.others
