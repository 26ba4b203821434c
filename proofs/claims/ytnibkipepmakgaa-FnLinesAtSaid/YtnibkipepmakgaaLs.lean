/- LinesIn: the program and the model alike. -/
import Derived.Test.YtnibkipepmakgaaLm
namespace Go.Proofs.Ytnibkipepmakgaa.cards
open Go.RowKit
set_option linter.unusedVariables false

noncomputable def linR (l : List Cd) : List A3 × Bool := if handB l = true then (allL l l.length, true) else ([], false)
set_option maxRecDepth 100000 in
set_option maxHeartbeats 4000000 in
theorem impl_lin (l : List Cd) (p : Option Addr) (n cp : Nat) (w : World) (hn : l.length = n) (hl : n ≤ 1000000000) (hr : Rd w p (flat l)) :
    Calls Try.prog 16 #[.slice p n cp] w fun e w' => ∃ u, e = .returned (.tuple #[u, .bool (linR l).2]) ∧ OwnA3 w' w.heap.size u (linR l).1 ∧ Below w.heap.size w w' := by
  have HN := Lib.hid hn
  have HR := Lib.hid hr
  have HR0 := Lib.hid hr
  clear hn hr
  go_enter Try.func16, Try.ntmps16
  go_wp2_with fail
  refine ((is_hand l p n cp _ HN.out hl (by repeat (first | with_reducible exact HR.out | with_reducible apply Rd.drewN | with_reducible apply Rd.drew | with_reducible apply Rd.alloc)))).mono ?_
  rintro e w1 ⟨rfl, b⟩
  have Sw1 := Lib.hid b.size
  have HB := Lib.hid (chain0 (w := w) (by repeat (first | with_reducible exact Below.refl _ _ | with_reducible exact HB.out | with_reducible apply Below.drew | with_reducible apply bdN | with_reducible refine Below.alloc ?_ (by first | exact Nat.le_refl _ | with_reducible exact HB.out.size | omega | (simp; done) | (simp; omega) | (have := HB.out.size; simp at *; omega)) _ | with_reducible refine Below.setCell ?_ (by first | exact Nat.le_refl _ | with_reducible exact HB.out.size | omega | (simp; done) | (simp; omega) | (have := HB.out.size; simp at *; omega)) _)) b)
  have HR := Lib.hid (Rd.below (by repeat (first | with_reducible exact HR.out | with_reducible apply Rd.drewN | with_reducible apply Rd.drew | with_reducible apply Rd.alloc)) b)
  clear b
  cases hh : handB l
  · have HT := Lib.hid (show linR l = ([], false) by unfold linR; rw [if_neg (by simp [hh])])
    go_wp2_with fail
    go_ret2
    exact ⟨_, ret_two (by rw [HT.out]), by rw [HT.out]; exact OwnA3.empty _ _ HB.out.size, by repeat (first | with_reducible exact Below.refl _ _ | with_reducible exact HB.out | with_reducible apply Below.drew | with_reducible apply bdN | with_reducible refine Below.alloc ?_ (by first | exact Nat.le_refl _ | with_reducible exact HB.out.size | omega | (simp; done) | (simp; omega) | (have := HB.out.size; simp at *; omega)) _ | with_reducible refine Below.setCell ?_ (by first | exact Nat.le_refl _ | with_reducible exact HB.out.size | omega | (simp; done) | (simp; omega) | (have := HB.out.size; simp at *; omega)) _)⟩
  · have HT := Lib.hid (show linR l = (allL l n, true) by unfold linR; rw [if_pos hh, HN.out])
    have HH := Lib.hid (handB_true.1 hh)
    have HS := Lib.hid HH.out.2.2
    have HK := Lib.hid HH.out.2.1
    have hl : n ≤ 27 := by have := HH.out.1; have := HN.out; omega
    go_wp2_with fail
    clear hh
    go_loopw [4, 5, 6, 7, 8, 16] (fun o _ _ _ _ i wr => ∃ k : Nat, k ≤ n ∧ i = .int .i64 k ∧ Hid (OwnA3 wr w.heap.size o (allL l k)) ∧ Hid (Below w.heap.size w wr)) (fun _ _ _ _ _ i _ => n - (intOf i).toNat)
    case atStart => exact ⟨0, Nat.zero_le _, rfl, OwnA3.empty _ _ HB.out.size, Lib.hid (by repeat (first | with_reducible exact Below.refl _ _ | with_reducible exact HB.out | with_reducible apply Below.drew | with_reducible apply bdN | with_reducible refine Below.alloc ?_ (by first | exact Nat.le_refl _ | with_reducible exact HB.out.size | omega | (simp; done) | (simp; omega) | (have := HB.out.size; simp at *; omega)) _ | with_reducible refine Below.setCell ?_ (by first | exact Nat.le_refl _ | with_reducible exact HB.out.size | omega | (simp; done) | (simp; omega) | (have := HB.out.size; simp at *; omega)) _))⟩
    case round =>
      clear HB HR
      obtain ⟨k, hk, rfl, HO, HB⟩ := hrel
      by_cases hlt : k < n
      · obtain ⟨wo, HWo⟩ : ∃ wo : World, Hid (wo = wr) := ⟨_, rfl⟩
        go_wp2_with fail
        go_loopw [4, 6, 7, 8] (fun o i _ _ wr => ∃ j : Nat, j ≤ n ∧ k < j ∧ i = .int .i64 j ∧ Hid (OwnA3 wr w.heap.size o (allL l k ++ rowL l k j)) ∧ Hid (Below w.heap.size w wr)) (fun _ i _ _ _ => n - (intOf i).toNat)
        case atStart => exact ⟨k + 1, by omega, by omega, by go_num, by rw [rowL_low (Nat.le_refl _), List.append_nil]; exact HO, HB⟩
        case round =>
          clear HB HO
          obtain ⟨j, hj, hkj, rfl, HO, HB⟩ := hrel
          by_cases hjt : j < n
          · have HR := Lib.hid (HR0.out.below HB.out)
            obtain ⟨b, o, x, rfl, hb, hx, c0, c1, c2, c3⟩ := HR.out.card (k := k) (by rw [HN.out]; omega)
            obtain ⟨b2, o2, y, hbo, hb2, hy, d0, d1, d2, d3⟩ := HR.out.card (k := j) (by rw [HN.out]; omega)
            injection hbo with hbo
            injection hbo with e1 e2
            subst e1; subst e2
            have HX := Lib.hid (ok_at HK.out hx)
            have HY := Lib.hid (ok_at HK.out hy)
            have hst := rowL_step hkj hx hy
            have hln : (allL l k ++ rowL l k j).length ≤ 1000000 := by
              have h1 := allL_len l k
              have h2 := rowL_len l k j
              have h3 : k * l.length ≤ 27 * 27 := Nat.mul_le_mul (by omega) (by have := HN.out; omega)
              rw [List.length_append]; omega
            have HLn := Lib.hid hln
            have hle := less_le l (third x y)
            rw [HN.out] at hle
            clear hx hy hln
            have HP := fun w' (hw : Below wr.heap.size wr w') => place_in l (third x y) (some ⟨b, o, none⟩) n cp w' HN.out (by omega) (HR.out.below hw) HK.out (third_ok _ _) HS.out
            obtain ⟨q, hq⟩ : ∃ q, less l (third x y) = q := ⟨_, rfl⟩
            obtain ⟨t, ht⟩ : ∃ t, there l (third x y) = t := ⟨_, rfl⟩
            rw [hq] at HP hst hle
            rw [ht] at HP hst
            clear hq ht
            have m0 : (0 : Int) ≤ (k : Int) := by omega
            have m1 : (k : Int) < (n : Int) := by omega
            have m2 : (0 : Int) ≤ (j : Int) := by omega
            have m3 : (j : Int) < (n : Int) := by omega
            cases t
            · rw [if_neg (by simp)] at hst
              have HPh := Lib.hid HP
              have HSt := Lib.hid hst
              clear HP hst
              go_wp2_with fail
              have qc0 := fun d os => cell_regrown c0 d os
              have qc1 := fun d os => cell_regrown c1 d os
              have qc2 := fun d os => cell_regrown c2 d os
              have qc3 := fun d os => cell_regrown c3 d os
              have qd0 := fun d os => cell_regrown d0 d os
              have qd1 := fun d os => cell_regrown d1 d os
              have qd2 := fun d os => cell_regrown d2 d os
              have qd3 := fun d os => cell_regrown d3 d os
              refine wp_region_quiet_below (by kernel_rfl) (by kernel_rfl) ?_
              repeat (first | go_big_quiet_step ((first | (go_at_call 34; with_reducible exact Calls.regrown_of (third_of _ _ _ HX.out HY.out)) | (go_at_call 33; with_reducible exact Calls.regrown_of (HPh.out _ (below_regrown _ _ _))))) | quiet_step ((first | (go_at_call 34; with_reducible exact Calls.regrown_of (third_of _ _ _ HX.out HY.out)) | (go_at_call 33; with_reducible exact Calls.regrown_of (HPh.out _ (below_regrown _ _ _))))))
              refine wpQuiet_nil ?_
              intro w3 hw2
              have b : Below wr.heap.size wr w3 := by obtain ⟨r, hr⟩ := hw2; rw [hr]; exact below_regrown _ _ _
              clear hw2 qc0 qc1 qc2 qc3 qd0 qd1 qd2 qd3
              have Sw3 := Lib.hid b.size
              have HB := Lib.hid (chain0 (w := w) (by repeat (first | with_reducible exact Below.refl _ _ | with_reducible exact HB.out | with_reducible apply Below.drew | with_reducible apply bdN | with_reducible refine Below.alloc ?_ (by first | exact Nat.le_refl _ | with_reducible exact HB.out.size | omega | (simp; done) | (simp; omega) | (have := HB.out.size; simp at *; omega)) _ | with_reducible refine Below.setCell ?_ (by first | exact Nat.le_refl _ | with_reducible exact HB.out.size | omega | (simp; done) | (simp; omega) | (have := HB.out.size; simp at *; omega)) _)) b)
              have HO := Lib.hid (OwnA3.below (by repeat (first | with_reducible exact HO.out | with_reducible apply OwnA3.drewN | with_reducible apply OwnA3.drew | with_reducible apply OwnA3.alloc)) b)
              clear b
              clear c0 c1 c2 c3 d0 d1 d2 d3
              go_wp2_with fail
              go_roundw
              case rel => exact ⟨j + 1, by omega, by omega, by go_num, by rw [HSt.out, List.append_nil]; exact HO, HB⟩
              case measure => simp [intOf]; omega
            · have HPh := Lib.hid HP
              clear HP
              by_cases hjq : j < q
              · rw [if_pos ⟨rfl, hjq⟩] at hst
                have HSt := Lib.hid hst
                clear hst
                go_wp2_with fail
                have qc0 := fun d os => cell_regrown c0 d os
                have qc1 := fun d os => cell_regrown c1 d os
                have qc2 := fun d os => cell_regrown c2 d os
                have qc3 := fun d os => cell_regrown c3 d os
                have qd0 := fun d os => cell_regrown d0 d os
                have qd1 := fun d os => cell_regrown d1 d os
                have qd2 := fun d os => cell_regrown d2 d os
                have qd3 := fun d os => cell_regrown d3 d os
                refine wp_region_quiet_below (by kernel_rfl) (by kernel_rfl) ?_
                repeat (first | go_big_quiet_step ((first | (go_at_call 34; with_reducible exact Calls.regrown_of (third_of _ _ _ HX.out HY.out)) | (go_at_call 33; with_reducible exact Calls.regrown_of (HPh.out _ (below_regrown _ _ _))))) | quiet_step ((first | (go_at_call 34; with_reducible exact Calls.regrown_of (third_of _ _ _ HX.out HY.out)) | (go_at_call 33; with_reducible exact Calls.regrown_of (HPh.out _ (below_regrown _ _ _))))))
                refine wpQuiet_nil ?_
                intro w3 hw2
                have b : Below wr.heap.size wr w3 := by obtain ⟨r, hr⟩ := hw2; rw [hr]; exact below_regrown _ _ _
                clear hw2 qc0 qc1 qc2 qc3 qd0 qd1 qd2 qd3
                have Sw3 := Lib.hid b.size
                have HB := Lib.hid (chain0 (w := w) (by repeat (first | with_reducible exact Below.refl _ _ | with_reducible exact HB.out | with_reducible apply Below.drew | with_reducible apply bdN | with_reducible refine Below.alloc ?_ (by first | exact Nat.le_refl _ | with_reducible exact HB.out.size | omega | (simp; done) | (simp; omega) | (have := HB.out.size; simp at *; omega)) _ | with_reducible refine Below.setCell ?_ (by first | exact Nat.le_refl _ | with_reducible exact HB.out.size | omega | (simp; done) | (simp; omega) | (have := HB.out.size; simp at *; omega)) _)) b)
                have HO := Lib.hid (OwnA3.below (by repeat (first | with_reducible exact HO.out | with_reducible apply OwnA3.drewN | with_reducible apply OwnA3.drew | with_reducible apply OwnA3.alloc)) b)
                clear b
                clear c0 c1 c2 c3 d0 d1 d2 d3
                go_wp2_with (at_builtin; refine append_A3 rfl (.tmp 47) (.tmp 52) rfl w.heap.size _ (allL l k ++ rowL l k j) ⟨(k : Int), (j : Int), (q : Int)⟩ _ _ rfl rfl rfl HO.out (by have := HLn.out; omega) HB.out.size ?_; intro v1 w4 hO1 hB1)
                rw [List.append_assoc, ← HSt.out] at hO1
                go_roundw
                case rel => exact ⟨j + 1, by omega, by omega, by go_num, hO1, HB.out.trans hB1⟩
                case measure => simp [intOf]; omega
              · rw [if_neg (fun h => hjq h.2)] at hst
                have HSt := Lib.hid hst
                clear hst
                go_wp2_with fail
                have qc0 := fun d os => cell_regrown c0 d os
                have qc1 := fun d os => cell_regrown c1 d os
                have qc2 := fun d os => cell_regrown c2 d os
                have qc3 := fun d os => cell_regrown c3 d os
                have qd0 := fun d os => cell_regrown d0 d os
                have qd1 := fun d os => cell_regrown d1 d os
                have qd2 := fun d os => cell_regrown d2 d os
                have qd3 := fun d os => cell_regrown d3 d os
                refine wp_region_quiet_below (by kernel_rfl) (by kernel_rfl) ?_
                repeat (first | go_big_quiet_step ((first | (go_at_call 34; with_reducible exact Calls.regrown_of (third_of _ _ _ HX.out HY.out)) | (go_at_call 33; with_reducible exact Calls.regrown_of (HPh.out _ (below_regrown _ _ _))))) | quiet_step ((first | (go_at_call 34; with_reducible exact Calls.regrown_of (third_of _ _ _ HX.out HY.out)) | (go_at_call 33; with_reducible exact Calls.regrown_of (HPh.out _ (below_regrown _ _ _))))))
                refine wpQuiet_nil ?_
                intro w3 hw2
                have b : Below wr.heap.size wr w3 := by obtain ⟨r, hr⟩ := hw2; rw [hr]; exact below_regrown _ _ _
                clear hw2 qc0 qc1 qc2 qc3 qd0 qd1 qd2 qd3
                have Sw3 := Lib.hid b.size
                have HB := Lib.hid (chain0 (w := w) (by repeat (first | with_reducible exact Below.refl _ _ | with_reducible exact HB.out | with_reducible apply Below.drew | with_reducible apply bdN | with_reducible refine Below.alloc ?_ (by first | exact Nat.le_refl _ | with_reducible exact HB.out.size | omega | (simp; done) | (simp; omega) | (have := HB.out.size; simp at *; omega)) _ | with_reducible refine Below.setCell ?_ (by first | exact Nat.le_refl _ | with_reducible exact HB.out.size | omega | (simp; done) | (simp; omega) | (have := HB.out.size; simp at *; omega)) _)) b)
                have HO := Lib.hid (OwnA3.below (by repeat (first | with_reducible exact HO.out | with_reducible apply OwnA3.drewN | with_reducible apply OwnA3.drew | with_reducible apply OwnA3.alloc)) b)
                clear b
                clear c0 c1 c2 c3 d0 d1 d2 d3
                go_wp2_with fail
                go_roundw
                case rel => exact ⟨j + 1, by omega, by omega, by go_num, by rw [HSt.out, List.append_nil]; exact HO, HB⟩
                case measure => simp [intOf]; omega
          · obtain rfl : j = n := by omega
            go_wp2_with fail
            go_roundw
            case rel => exact ⟨k + 1, by omega, by go_num, by rw [show allL l (k + 1) = allL l k ++ rowL l k l.length from rfl, HN.out]; exact HO, HB⟩
            case measure => simp [intOf]; omega
      · obtain rfl : k = n := by omega
        go_wp2_with fail
        go_ret2
        exact ⟨_, ret_two (by rw [HT.out]), by rw [HT.out]; exact HO.out, HB.out⟩

theorem linR_len (l : List Cd) : (linR l).1.length ≤ 100000000 := by
  unfold linR
  split
  · rename_i h
    have h1 := (handB_true.1 h).1
    have h2 := allL_len l l.length
    have h3 : l.length * l.length ≤ 27 * 27 := Nat.mul_le_mul h1 h1
    show (allL l l.length).length ≤ _
    omega
  · simp
end Go.Proofs.Ytnibkipepmakgaa.cards
