/- The lines of the cards that lie there: the program's linesOf and the model's l4Lines. -/
import Derived.Test.YtjpfjgoebdogjaaQb
import Derived.Test.YtjpfjgoebdogjaaQj
import Derived.Test.YtjpfjgoebdogjaaLn
namespace Go.Proofs.Ytjpfjgoebdogjaa.deal
open Go.RowKit
open cards
set_option linter.unusedVariables false

theorem lns_bd (l : List Cd) {n k j : Nat} (hn : l.length = n) (hl : n ≤ 81) (hk : k ≤ n) (hj : j ≤ n) : (lns l k ++ lnR l k j).length ≤ 1000000 := by
  have h1 := lns_len l k
  have h2 := lnR_len l k j
  have h3 : k * l.length ≤ 81 * 81 := Nat.mul_le_mul (by omega) (by omega)
  rw [List.length_append]; omega

set_option maxRecDepth 100000 in
set_option maxHeartbeats 4000000 in
theorem lines_of (l : List Cd) (p : Option Addr) (n cp : Nat) (w : World) (hn : l.length = n) (hl : n ≤ 81) (hr : Rd w p (flat l)) (hok : l.all Cd.ok = true) :
    Calls Try.prog 103 #[.slice p n cp] w fun e w' => ∃ u, e = .returned u ∧ OwnA3 w' w.heap.size u (lines l) ∧ Below w.heap.size w w' := by
  have HN := Lib.hid hn
  have HR0 := Lib.hid hr
  have HK := Lib.hid hok
  clear hn hr hok
  go_enter Try.func103, Try.ntmps103
  go_wp2_with fail
  go_loopw [3, 4, 5, 6, 10] (fun o _ _ _ i wr => ∃ k : Nat, k ≤ n ∧ i = .int .i64 k ∧ Hid (OwnA3 wr w.heap.size o (lns l k)) ∧ Hid (Below w.heap.size w wr)) (fun _ _ _ _ i _ => n - (intOf i).toNat)
  case atStart => exact ⟨0, Nat.zero_le _, rfl, OwnA3.empty w w.heap.size (Nat.le_refl _), Lib.hid (by repeat (first | with_reducible exact Below.refl _ _ | with_reducible exact HB.out | with_reducible apply Below.drew | with_reducible apply bdN | with_reducible refine Below.alloc ?_ (by first | exact Nat.le_refl _ | with_reducible exact HB.out.size | omega | (simp; done) | (simp; omega) | (have := HB.out.size; simp at *; omega)) _))⟩
  case round =>
    obtain ⟨k, hk, rfl, HO, HB⟩ := hrel
    by_cases hlt : k < n
    · obtain ⟨wo, HWo⟩ : ∃ wo : World, Hid (wo = wr) := ⟨_, rfl⟩
      have m0 : (0 : Int) ≤ (k : Int) := by omega
      have m1 : (k : Int) < (n : Int) := by omega
      go_wp2_with fail
      go_loopw [3, 5, 6] (fun o i _ wr => ∃ j : Nat, j ≤ n ∧ k < j ∧ i = .int .i64 j ∧ Hid (OwnA3 wr w.heap.size o (lns l k ++ lnR l k j)) ∧ Hid (Below w.heap.size w wr)) (fun _ i _ _ => n - (intOf i).toNat)
      case atStart => exact ⟨k + 1, by omega, by omega, by go_num, by rw [lnR_low (Nat.le_refl _), List.append_nil]; exact HO, HB⟩
      case round =>
        clear HB HO
        obtain ⟨j, hj, hkj, rfl, HO, HB⟩ := hrel
        by_cases hjt : j < n
        · have HR := Lib.hid (HR0.out.below HB.out)
          obtain ⟨b, o, x, rfl, hb, hx, c0, c1, c2, c3⟩ := HR.out.card (k := k) (by rw [HN.out]; omega)
          obtain ⟨b2, o2, y, hbo, hb2, hy, d0, d1, d2, d3⟩ := HR.out.card (k := j) (by rw [HN.out]; omega)
          injection hbo with hbo
          injection hbo with e1 e2
          subst e1; subst e2
          have HX := Lib.hid (ok_at HK.out hx)
          have HY := Lib.hid (ok_at HK.out hy)
          have hst := lnR_step hkj hx hy
          have HLn := Lib.hid (lns_bd l HN.out hl (by omega) hj : (lns l k ++ lnR l k j).length ≤ 1000000)
          have HP := fun w' (hw : Below wr.heap.size wr w') => index_cd l (third x y) (some ⟨b, o, none⟩) n cp w' HN.out (by omega) (HR.out.below hw) (wfc_all HK.out) (wfc_ok (third_ok _ _))
          obtain ⟨q, hq⟩ : ∃ q, posn l (third x y) = q := ⟨_, rfl⟩
          rw [hq] at HP hst
          have HPh := Lib.hid HP
          clear hx hy hq HP
          have m2 : (0 : Int) ≤ (j : Int) := by omega
          have m3 : (j : Int) < (n : Int) := by omega
          by_cases hjq : (j : Int) < q
          · rw [if_pos hjq] at hst
            have HSt := Lib.hid hst
            clear hst
            go_wp2_with fail
            have qc0 := fun d os => cell_regrown c0 d os
            have qc1 := fun d os => cell_regrown c1 d os
            have qc2 := fun d os => cell_regrown c2 d os
            have qc3 := fun d os => cell_regrown c3 d os
            have qd0 := fun d os => cell_regrown d0 d os
            have qd1 := fun d os => cell_regrown d1 d os
            have qd2 := fun d os => cell_regrown d2 d os
            have qd3 := fun d os => cell_regrown d3 d os
            refine wp_region_quiet_below (by kernel_rfl) (by kernel_rfl) ?_
            repeat (first | go_big_quiet_step ((first | (go_at_call 117; with_reducible exact Calls.regrown_of (third_of _ _ _ HX.out HY.out)) | (go_at_call 111; with_reducible exact Calls.regrown_of (HPh.out _ (below_regrown _ _ _))))) | quiet_step ((first | (go_at_call 117; with_reducible exact Calls.regrown_of (third_of _ _ _ HX.out HY.out)) | (go_at_call 111; with_reducible exact Calls.regrown_of (HPh.out _ (below_regrown _ _ _))))))
            refine wpQuiet_nil ?_
            intro w3 hw2
            have b : Below wr.heap.size wr w3 := by obtain ⟨r, hr⟩ := hw2; rw [hr]; exact below_regrown _ _ _
            clear hw2 qc0 qc1 qc2 qc3 qd0 qd1 qd2 qd3
            have Sw3 := Lib.hid b.size
            have HB := Lib.hid (chain0 (w := w) (by repeat (first | with_reducible exact Below.refl _ _ | with_reducible exact HB.out | with_reducible apply Below.drew | with_reducible apply bdN | with_reducible refine Below.alloc ?_ (by first | exact Nat.le_refl _ | with_reducible exact HB.out.size | omega | (simp; done) | (simp; omega) | (have := HB.out.size; simp at *; omega)) _)) b)
            have HO := Lib.hid (OwnA3.below (by repeat (first | with_reducible exact HO.out | with_reducible apply OwnA3.drewN | with_reducible apply OwnA3.drew | with_reducible apply OwnA3.alloc)) b)
            clear b
            clear c0 c1 c2 c3 d0 d1 d2 d3
            go_wp2_with (at_builtin; refine append_A3 rfl (.tmp 35) (.tmp 40) rfl w.heap.size _ (lns l k ++ lnR l k j) ⟨(k : Int), (j : Int), q⟩ _ _ rfl rfl rfl HO.out (by have := HLn.out; omega) HB.out.size ?_; intro v1 w4 hO1 hB1)
            rw [List.append_assoc, ← HSt.out] at hO1
            go_roundw
            case rel => exact ⟨j + 1, by omega, by omega, by go_num, hO1, HB.out.trans hB1⟩
            case measure => simp [intOf]; omega
          · rw [if_neg hjq] at hst
            have HSt := Lib.hid hst
            clear hst
            go_wp2_with fail
            have qc0 := fun d os => cell_regrown c0 d os
            have qc1 := fun d os => cell_regrown c1 d os
            have qc2 := fun d os => cell_regrown c2 d os
            have qc3 := fun d os => cell_regrown c3 d os
            have qd0 := fun d os => cell_regrown d0 d os
            have qd1 := fun d os => cell_regrown d1 d os
            have qd2 := fun d os => cell_regrown d2 d os
            have qd3 := fun d os => cell_regrown d3 d os
            refine wp_region_quiet_below (by kernel_rfl) (by kernel_rfl) ?_
            repeat (first | go_big_quiet_step ((first | (go_at_call 117; with_reducible exact Calls.regrown_of (third_of _ _ _ HX.out HY.out)) | (go_at_call 111; with_reducible exact Calls.regrown_of (HPh.out _ (below_regrown _ _ _))))) | quiet_step ((first | (go_at_call 117; with_reducible exact Calls.regrown_of (third_of _ _ _ HX.out HY.out)) | (go_at_call 111; with_reducible exact Calls.regrown_of (HPh.out _ (below_regrown _ _ _))))))
            refine wpQuiet_nil ?_
            intro w3 hw2
            have b : Below wr.heap.size wr w3 := by obtain ⟨r, hr⟩ := hw2; rw [hr]; exact below_regrown _ _ _
            clear hw2 qc0 qc1 qc2 qc3 qd0 qd1 qd2 qd3
            have Sw3 := Lib.hid b.size
            have HB := Lib.hid (chain0 (w := w) (by repeat (first | with_reducible exact Below.refl _ _ | with_reducible exact HB.out | with_reducible apply Below.drew | with_reducible apply bdN | with_reducible refine Below.alloc ?_ (by first | exact Nat.le_refl _ | with_reducible exact HB.out.size | omega | (simp; done) | (simp; omega) | (have := HB.out.size; simp at *; omega)) _)) b)
            have HO := Lib.hid (OwnA3.below (by repeat (first | with_reducible exact HO.out | with_reducible apply OwnA3.drewN | with_reducible apply OwnA3.drew | with_reducible apply OwnA3.alloc)) b)
            clear b
            clear c0 c1 c2 c3 d0 d1 d2 d3
            go_wp2_with fail
            go_roundw
            case rel => exact ⟨j + 1, by omega, by omega, by go_num, by rw [HSt.out, List.append_nil]; exact HO, HB⟩
            case measure => simp [intOf]; omega
        · obtain rfl : j = n := by omega
          go_wp2_with fail
          go_roundw
          case rel => exact ⟨k + 1, by omega, by go_num, by rw [show lns l (k + 1) = lns l k ++ lnR l k l.length from rfl, HN.out]; exact HO, HB⟩
          case measure => simp [intOf]; omega
    · obtain rfl : k = n := by omega
      go_wp2_with fail
      go_ret
      exact ⟨_, rfl, by rw [show lines l = lns l l.length from rfl, HN.out]; exact HO.out, HB.out⟩

set_option maxRecDepth 100000 in
set_option maxHeartbeats 4000000 in
theorem l4_lines (l : List Cd) (p : Option Addr) (n cp : Nat) (w : World) (hn : l.length = n) (hl : n ≤ 81) (hr : Rd w p (flat l)) (hok : l.all Cd.ok = true) (hd : l.Nodup) :
    Calls Try.prog 52 #[.slice p n cp] w fun e w' => ∃ u, e = .returned u ∧ OwnA3 w' w.heap.size u (lines l) ∧ Below w.heap.size w w' := by
  have HN := Lib.hid hn
  have HR0 := Lib.hid hr
  have HK := Lib.hid hok
  have HD := Lib.hid hd
  clear hn hr hok hd
  go_enter Try.func52, Try.ntmps52
  go_wp2_with fail
  go_loopw [3, 4, 5, 6] (fun o i _ _ wr => ∃ k : Nat, k ≤ n ∧ i = .int .i64 k ∧ Hid (OwnA3 wr w.heap.size o (lns l k)) ∧ Hid (Below w.heap.size w wr)) (fun _ i _ _ _ => n - (intOf i).toNat)
  case atStart => exact ⟨0, Nat.zero_le _, rfl, OwnA3.empty w w.heap.size (Nat.le_refl _), Lib.hid (by repeat (first | with_reducible exact Below.refl _ _ | with_reducible exact HB.out | with_reducible apply Below.drew | with_reducible apply bdN | with_reducible refine Below.alloc ?_ (by first | exact Nat.le_refl _ | with_reducible exact HB.out.size | omega | (simp; done) | (simp; omega) | (have := HB.out.size; simp at *; omega)) _))⟩
  case round =>
    obtain ⟨k, hk, rfl, HO, HB⟩ := hrel
    by_cases hlt : k < n
    · obtain ⟨wo, HWo⟩ : ∃ wo : World, Hid (wo = wr) := ⟨_, rfl⟩
      have m0 : (0 : Int) ≤ (k : Int) := by omega
      have m1 : (k : Int) < (n : Int) := by omega
      go_wp2_with fail
      go_loopw [3, 5, 6] (fun o i _ wr => ∃ j : Nat, j ≤ n ∧ k < j ∧ i = .int .i64 j ∧ Hid (OwnA3 wr w.heap.size o (lns l k ++ lnR l k j)) ∧ Hid (Below w.heap.size w wr)) (fun _ i _ _ => n - (intOf i).toNat)
      case atStart => exact ⟨k + 1, by omega, by omega, by go_num, by rw [lnR_low (Nat.le_refl _), List.append_nil]; exact HO, HB⟩
      case round =>
        clear HB HO
        obtain ⟨j, hj, hkj, rfl, HO, HB⟩ := hrel
        by_cases hjt : j < n
        · obtain ⟨wo2, HWo2⟩ : ∃ wo : World, Hid (wo = wr) := ⟨_, rfl⟩
          have m2 : (0 : Int) ≤ (j : Int) := by omega
          have m3 : (j : Int) < (n : Int) := by omega
          go_wp2_with fail
          go_loopw [3, 6] (fun o i wr => ∃ m : Nat, m ≤ n ∧ j < m ∧ i = .int .i64 m ∧ Hid (OwnA3 wr w.heap.size o ((lns l k ++ lnR l k j) ++ pl l k j (m : Int))) ∧ Hid (Below w.heap.size w wr)) (fun _ i _ => n - (intOf i).toNat)
          case atStart => exact ⟨j + 1, by omega, by omega, by go_num, by rw [pl_low, List.append_nil]; exact HO, HB⟩
          case round =>
            clear HB HO
            obtain ⟨m, hm, hjm, rfl, HO, HB⟩ := hrel
            by_cases hmt : m < n
            · have HR := Lib.hid (HR0.out.below HB.out)
              obtain ⟨b, o, x, rfl, hb, hx, c0, c1, c2, c3⟩ := HR.out.card (k := k) (by rw [HN.out]; omega)
              obtain ⟨b2, o2, y, hbo, hb2, hy, d0, d1, d2, d3⟩ := HR.out.card (k := j) (by rw [HN.out]; omega)
              injection hbo with hbo
              injection hbo with e1 e2
              subst e1; subst e2
              obtain ⟨b2, o2, z, hbo, hb2, hz, e0, e1, e2, e3⟩ := HR.out.card (k := m) (by rw [HN.out]; omega)
              injection hbo with hbo
              injection hbo with g1 g2
              subst g1; subst g2
              have HX := Lib.hid (ok_at HK.out hx)
              have HY := Lib.hid (ok_at HK.out hy)
              have HZ := Lib.hid (ok_at HK.out hz)
              have hst := pl_step HD.out hkj hjm hx hy hz
              have HLn := Lib.hid (show ((lns l k ++ lnR l k j) ++ pl l k j (m : Int)).length ≤ 10000000 by have h1 := lns_bd l HN.out hl (show k ≤ n by omega) (show j ≤ n by omega); have h2 := pl_len l k j (m : Int); rw [List.length_append]; omega)
              have LL := fun w => l2_line x y z w HX.out HY.out HZ.out
              clear hx hy hz
              have m4 : (0 : Int) ≤ (m : Int) := by omega
              have m5 : (m : Int) < (n : Int) := by omega
              cases hq : cards.line x y z
              · rw [hq] at LL hst
                have LH := Lib.hid LL
                have HSt := Lib.hid (show pl l k j ((m + 1 : Nat) : Int) = pl l k j (m : Int) by rw [hst]; simp)
                clear LL hst hq
                go_wp2_with fail
                have qc0 := fun d os => cell_regrown c0 d os
                have qc1 := fun d os => cell_regrown c1 d os
                have qc2 := fun d os => cell_regrown c2 d os
                have qc3 := fun d os => cell_regrown c3 d os
                have qd0 := fun d os => cell_regrown d0 d os
                have qd1 := fun d os => cell_regrown d1 d os
                have qd2 := fun d os => cell_regrown d2 d os
                have qd3 := fun d os => cell_regrown d3 d os
                have qe0 := fun d os => cell_regrown e0 d os
                have qe1 := fun d os => cell_regrown e1 d os
                have qe2 := fun d os => cell_regrown e2 d os
                have qe3 := fun d os => cell_regrown e3 d os
                refine wp_region_quiet_below (by kernel_rfl) (by kernel_rfl) ?_
                repeat (first | go_big_quiet_step ((go_at_call 74; with_reducible exact Calls.regrown_of (LH.out _))) | quiet_step ((go_at_call 74; with_reducible exact Calls.regrown_of (LH.out _))))
                refine wpQuiet_nil ?_
                intro w4 hw2
                have b : Below wr.heap.size wr w4 := by obtain ⟨r, hr⟩ := hw2; rw [hr]; exact below_regrown _ _ _
                clear hw2 qc0 qc1 qc2 qc3 qd0 qd1 qd2 qd3 qe0 qe1 qe2 qe3
                have Sw4 := Lib.hid b.size
                have HB := Lib.hid (chain0 (w := w) (by repeat (first | with_reducible exact Below.refl _ _ | with_reducible exact HB.out | with_reducible apply Below.drew | with_reducible apply bdN | with_reducible refine Below.alloc ?_ (by first | exact Nat.le_refl _ | with_reducible exact HB.out.size | omega | (simp; done) | (simp; omega) | (have := HB.out.size; simp at *; omega)) _)) b)
                have HO := Lib.hid (OwnA3.below (by repeat (first | with_reducible exact HO.out | with_reducible apply OwnA3.drewN | with_reducible apply OwnA3.drew | with_reducible apply OwnA3.alloc)) b)
                clear b
                clear c0 c1 c2 c3 d0 d1 d2 d3 e0 e1 e2 e3
                go_wp2_with fail
                go_roundw
                case rel => exact ⟨m + 1, by omega, by omega, by go_num, by rw [HSt.out]; exact HO, HB⟩
                case measure => simp [intOf]; omega
              · rw [hq] at LL hst
                have LH := Lib.hid LL
                have HSt := Lib.hid (show pl l k j ((m + 1 : Nat) : Int) = pl l k j (m : Int) ++ [⟨(k : Int), (j : Int), (m : Int)⟩] by rw [hst]; simp)
                clear LL hst hq
                go_wp2_with fail
                have qc0 := fun d os => cell_regrown c0 d os
                have qc1 := fun d os => cell_regrown c1 d os
                have qc2 := fun d os => cell_regrown c2 d os
                have qc3 := fun d os => cell_regrown c3 d os
                have qd0 := fun d os => cell_regrown d0 d os
                have qd1 := fun d os => cell_regrown d1 d os
                have qd2 := fun d os => cell_regrown d2 d os
                have qd3 := fun d os => cell_regrown d3 d os
                have qe0 := fun d os => cell_regrown e0 d os
                have qe1 := fun d os => cell_regrown e1 d os
                have qe2 := fun d os => cell_regrown e2 d os
                have qe3 := fun d os => cell_regrown e3 d os
                refine wp_region_quiet_below (by kernel_rfl) (by kernel_rfl) ?_
                repeat (first | go_big_quiet_step ((go_at_call 74; with_reducible exact Calls.regrown_of (LH.out _))) | quiet_step ((go_at_call 74; with_reducible exact Calls.regrown_of (LH.out _))))
                refine wpQuiet_nil ?_
                intro w4 hw2
                have b : Below wr.heap.size wr w4 := by obtain ⟨r, hr⟩ := hw2; rw [hr]; exact below_regrown _ _ _
                clear hw2 qc0 qc1 qc2 qc3 qd0 qd1 qd2 qd3 qe0 qe1 qe2 qe3
                have Sw4 := Lib.hid b.size
                have HB := Lib.hid (chain0 (w := w) (by repeat (first | with_reducible exact Below.refl _ _ | with_reducible exact HB.out | with_reducible apply Below.drew | with_reducible apply bdN | with_reducible refine Below.alloc ?_ (by first | exact Nat.le_refl _ | with_reducible exact HB.out.size | omega | (simp; done) | (simp; omega) | (have := HB.out.size; simp at *; omega)) _)) b)
                have HO := Lib.hid (OwnA3.below (by repeat (first | with_reducible exact HO.out | with_reducible apply OwnA3.drewN | with_reducible apply OwnA3.drew | with_reducible apply OwnA3.alloc)) b)
                clear b
                clear c0 c1 c2 c3 d0 d1 d2 d3 e0 e1 e2 e3
                go_wp2_with (at_builtin; refine append_A3 rfl (.tmp 43) (.tmp 48) rfl w.heap.size _ ((lns l k ++ lnR l k j) ++ pl l k j (m : Int)) ⟨(k : Int), (j : Int), (m : Int)⟩ _ _ rfl rfl rfl HO.out (by have := HLn.out; omega) HB.out.size ?_; intro v1 w5 hO1 hB1)
                rw [List.append_assoc, ← HSt.out] at hO1
                go_roundw
                case rel => exact ⟨m + 1, by omega, by omega, by go_num, hO1, HB.out.trans hB1⟩
                case measure => simp [intOf]; omega
            · obtain rfl : m = n := by omega
              go_wp2_with fail
              go_roundw
              case rel => exact ⟨j + 1, by omega, by omega, by go_num, by rw [lnR_all hkj, ← List.append_assoc, HN.out]; exact HO, HB⟩
              case measure => simp [intOf]; omega
        · obtain rfl : j = n := by omega
          go_wp2_with fail
          go_roundw
          case rel => exact ⟨k + 1, by omega, by go_num, by rw [show lns l (k + 1) = lns l k ++ lnR l k l.length from rfl, HN.out]; exact HO, HB⟩
          case measure => simp [intOf]; omega
    · obtain rfl : k = n := by omega
      go_wp2_with fail
      go_ret
      exact ⟨_, rfl, by rw [show lines l = lns l l.length from rfl, HN.out]; exact HO.out, HB.out⟩
end Go.Proofs.Ytjpfjgoebdogjaa.deal
