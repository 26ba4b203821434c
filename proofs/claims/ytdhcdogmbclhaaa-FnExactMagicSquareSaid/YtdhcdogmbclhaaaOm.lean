/- SpacesWith: the program's. -/
import Derived.Test.YtdhcdogmbclhaaaOl
import Derived.WalkMore
namespace Go.Proofs.Ytdhcdogmbclhaaa.planes
open Go.RowKit
open cards reg
set_option linter.unusedVariables false

set_option maxRecDepth 100000 in
set_option maxHeartbeats 8000000 in
theorem impl_sw (l : List Cd) (p : Option Addr) (n cp : Nat) (w : World) (hn : l.length = n) (hl : n ≤ 1000000000) (hr : Rd w p (flat l)) :
    Calls Try.prog 47 #[.slice p n cp] w fun e w' => ∃ u, e = .returned (.tuple #[u, .bool (swR l).2]) ∧ Own w' w.heap.size u (swR l).1 ∧ Below w.heap.size w w' := by
  have HN := Lib.hid hn
  have HI := Lib.hid (fun w hr => is_hand l p n cp w hn hl hr)
  have HR0 := Lib.hid hr
  have HR := Lib.hid hr
  clear hr hn
  cases hh : handB l
  · have HT := Lib.hid (show swR l = ([], false) by unfold swR; rw [if_neg (by simp [hh])])
    rw [hh] at HI
    clear hh
    go_enter Try.func47, Try.ntmps47
    go_wp2_with fail
    go_step3
    go_wp2_with fail
    refine (HI.out _ HR.out).mono ?_
    rintro e w1 ⟨rfl, b⟩
    have Sw1 := Lib.hid b.size
    have HB := Lib.hid (chain0 (w := w) (by repeat (first | with_reducible exact Below.refl _ _ | with_reducible exact HB.out | with_reducible apply Below.drew | with_reducible apply bdN | with_reducible refine Below.alloc ?_ (by first | exact Nat.le_refl _ | with_reducible exact HB.out.size | omega | (simp; done) | (simp; omega) | (have := HB.out.size; simp at *; omega)) _ | with_reducible refine Below.setCell ?_ (by first | exact Nat.le_refl _ | with_reducible exact HB.out.size | omega | (simp; done) | (simp; omega) | (have := HB.out.size; simp at *; omega)) _)) b)
    have HR := Lib.hid (Rd.below (by repeat (first | with_reducible exact HR.out | with_reducible apply Rd.drewN | with_reducible apply Rd.drew | with_reducible apply Rd.alloc)) b)
    clear b
    go_wp2_with fail
    (try rw [Exit.noGoto_ret])
    show bodyPost _ _ _ _ _ _
    go_ret2
    exact ⟨_, ret_two (by rw [HT.out]), by rw [HT.out]; exact Own.empty _ _ HB.out.size, by repeat (first | with_reducible exact Below.refl _ _ | with_reducible exact HB.out | with_reducible apply Below.drew | with_reducible apply bdN | with_reducible refine Below.alloc ?_ (by first | exact Nat.le_refl _ | with_reducible exact HB.out.size | omega | (simp; done) | (simp; omega) | (have := HB.out.size; simp at *; omega)) _ | with_reducible refine Below.setCell ?_ (by first | exact Nat.le_refl _ | with_reducible exact HB.out.size | omega | (simp; done) | (simp; omega) | (have := HB.out.size; simp at *; omega)) _)⟩
  · have HT := Lib.hid (show swR l = (wts.filter (eqv l), true) by unfold swR; rw [if_pos hh])
    have HH := Lib.hid (handB_true.1 hh)
    rw [hh] at HI
    clear hh
    go_enter Try.func47, Try.ntmps47
    go_wp2_with fail
    go_step3
    go_wp2_with fail
    refine (HI.out _ HR.out).mono ?_
    rintro e w1 ⟨rfl, b⟩
    have Sw1 := Lib.hid b.size
    have HB := Lib.hid (chain0 (w := w) (by repeat (first | with_reducible exact Below.refl _ _ | with_reducible exact HB.out | with_reducible apply Below.drew | with_reducible apply bdN | with_reducible refine Below.alloc ?_ (by first | exact Nat.le_refl _ | with_reducible exact HB.out.size | omega | (simp; done) | (simp; omega) | (have := HB.out.size; simp at *; omega)) _ | with_reducible refine Below.setCell ?_ (by first | exact Nat.le_refl _ | with_reducible exact HB.out.size | omega | (simp; done) | (simp; omega) | (have := HB.out.size; simp at *; omega)) _)) b)
    have HR := Lib.hid (Rd.below (by repeat (first | with_reducible exact HR.out | with_reducible apply Rd.drewN | with_reducible apply Rd.drew | with_reducible apply Rd.alloc)) b)
    clear b
    have HO := Lib.hid (Own.empty w1 w.heap.size HB.out.size)
    have HB2 := Lib.hid (HB.out.alloc HB.out.size (.cells #[] 33))
    have h1 := HB.out.size
    go_wp2_with fail
    go_step3
    go_wp2_with fail
    refine (all_weights _).mono ?_
    rintro e w2 ⟨u, rfl, hu, b2⟩
    have HO := Lib.hid (HO.out.below b2)
    have HB := Lib.hid (chain0 HB2.out b2)
    obtain ⟨pu, cu, rfl, _, _, _⟩ := hu.form
    have HAp : Hid (Ap (.slice (some ⟨w1.heap.size, 0, none⟩) 0 0) (.slice pu wts.length cu)) := Lib.hid (fun g h1 h2 => by
      have h1 : some w1.heap.size = some g := h1
      injection h1 with h1
      have h3 := (hu.span g h2).1
      simp at h3; omega)
    have HU := Lib.hid (hu.base (B' := w.heap.size) (by simp; omega))
    have hle := wts_le
    obtain ⟨q, hq⟩ : ∃ q, wts.length = q := ⟨_, rfl⟩
    have HQ := Lib.hid hq
    rw [hq] at hle HU HAp ⊢
    clear hu b2 hq HB2 HR h1
    go_wp2_with fail
    go_loopw [4, 16] (fun o iv wr => ∃ k : Nat, k ≤ q ∧ iv = .int .i64 k ∧ Hid (Own wr w.heap.size o ((wts.take k).filter (eqv l))) ∧ Hid (Below w.heap.size w wr) ∧ Hid (Own wr w.heap.size (.slice pu q cu) wts) ∧ Hid (Ap o (.slice pu q cu))) (fun _ iv _ => q - (intOf iv).toNat)
    case atStart => exact ⟨0, Nat.zero_le _, rfl, HO, HB, HU, HAp⟩
    case round =>
      clear HO HB HU HAp
      obtain ⟨k, hk, rfl, HO, HB, HU, HAp⟩ := hrel
      by_cases hkt : k < q
      · obtain ⟨b, o, x, rfl, hb, hx, c0, c1, c2, c3⟩ := HU.out.rd.card (k := k) (by rw [HQ.out]; exact hkt)
        have HX := Lib.hid (wtB_ok (cdsOf_mem.1 (List.mem_of_getElem? hx)).2)
        have HY := Lib.hid (fun h => filter_yes (P := eqv l) hx h)
        have HNo := Lib.hid (fun h => filter_no (P := eqv l) hx h)
        have HL : Hid (((wts.take k).filter (eqv l)).length ≤ 81) := Lib.hid (Nat.le_trans (List.length_filter_le _ _) (by rw [List.length_take]; omega))
        have m0 : (0 : Int) ≤ (k : Int) := by omega
        have m1 : (k : Int) < (q : Int) := by omega
        clear hx
        go_upto_region 7 with fail
        have K6 : Hid (Box (wr.alloc x.obj) wr.heap.size x) := Lib.hid (Box.newAt rfl rfl)
        have HO := Lib.hid (HO.out.alloc x.obj)
        have HU := Lib.hid (HU.out.alloc x.obj)
        have HB := Lib.hid (HB.out.alloc HB.out.size x.obj)
        obtain ⟨g6, hg6⟩ : ∃ g6, wr.heap.size = g6 := ⟨_, rfl⟩
        rw [hg6] at K6
        try rw [hg6]
        clear hg6 c0 c1 c2 c3 hb
        generalize wr.alloc x.obj = W2 at *
        go_wp2_with fail
        go_loopw [8, 22] (fun _ jv wq => ∃ j : Nat, j ≤ n ∧ jv = .int .i64 j ∧ Hid (∀ (i : Nat) (c : Cd), i < j → l[i]? = some c → valN c x = valN (l.getD 0 zero) x) ∧ Hid (Below w.heap.size w wq) ∧ Hid (Own wq w.heap.size (.slice (some ⟨b, o, none⟩) q cu) wts) ∧ Hid (Own wq w.heap.size _ ((wts.take k).filter (eqv l))) ∧ Hid (Box wq g6 x)) (fun _ jv _ => n - (intOf jv).toNat)
        case atStart => exact ⟨0, Nat.zero_le _, rfl, Lib.hid (fun i c h => by omega), HB, HU, HO, K6⟩
        case round =>
          clear HO HB HU K6
          obtain ⟨j, hj, rfl, HA, HB, HU, HO, K6⟩ := hrel
          by_cases hjt : j < n
          · obtain ⟨b1, o1, y0, rfl, hb1, hy0, d0, d1, d2, d3⟩ := (HR0.out.below HB.out).card (k := 0) (by rw [HN.out]; omega)
            obtain ⟨b2, o2, y, e2, hb2, hy, c0, c1, c2, c3⟩ := (HR0.out.below HB.out).card (k := j) (by rw [HN.out]; exact hjt)
            injection e2 with e2; injection e2 with e2a e2b
            subst e2a; subst e2b
            have HX1 := Lib.hid (ok_at HH.out.2.1 hy)
            have HX0 := Lib.hid (ok_at HH.out.2.1 hy0)
            have h0 : l.getD 0 zero = y0 := by rw [List.getD_eq_getElem?_getD, hy0]; rfl
            have hV1 := fun w => value_by y x w HX1.out HX.out
            have hV0 := fun w => value_by y0 x w HX0.out HX.out
            rw [valN_val] at hV1 hV0
            have HV1 := Lib.hid hV1
            have HV0 := Lib.hid hV0
            have HYj := Lib.hid hy
            have H0 := Lib.hid h0
            have m2 : (0 : Int) ≤ (j : Int) := by omega
            have m3 : (j : Int) < (n : Int) := by omega
            clear hV1 hV0 hy hy0 h0
            go_upto_region 10 with fail
            have K8 : Hid (Box (wr.alloc y.obj) wr.heap.size y) := Lib.hid (Box.newAt rfl rfl)
            have HBa := Lib.hid ((Below.refl wr.heap.size wr).alloc (Nat.le_refl _) y.obj)
            have HO := Lib.hid (HO.out.alloc y.obj)
            have HU := Lib.hid (HU.out.alloc y.obj)
            have HB := Lib.hid (HB.out.alloc HB.out.size y.obj)
            have K6 := Lib.hid (K6.out.alloc y.obj)
            have d0 := (Below.cell HBa.out (p := ⟨b1, _, none⟩) hb1).trans d0
            have d1 := (Below.cell HBa.out (p := ⟨b1, _, none⟩) hb1).trans d1
            have d2 := (Below.cell HBa.out (p := ⟨b1, _, none⟩) hb1).trans d2
            have d3 := (Below.cell HBa.out (p := ⟨b1, _, none⟩) hb1).trans d3
            have hb1 : b1 < (wr.alloc y.obj).heap.size := Nat.lt_of_lt_of_le hb1 HBa.out.size
            obtain ⟨g8, hg8⟩ : ∃ g8, wr.heap.size = g8 := ⟨_, rfl⟩
            rw [hg8] at K8
            try rw [hg8]
            clear hg8 c0 c1 c2 c3 HBa hb2
            generalize wr.alloc y.obj = W3 at *
            by_cases he : valN y x = valN y0 x
            · have hb34 : ((valN y x : Int) != (valN y0 x : Int)) = false := by simp [he]
              have HA2 : Hid (∀ (i : Nat) (c : Cd), i < j + 1 → l[i]? = some c → valN c x = valN (l.getD 0 zero) x) := Lib.hid (fun i c hi hc => by
                rcases Nat.lt_or_ge i j with h | h
                · exact HA.out i c h hc
                · obtain rfl : i = j := by omega
                  have h2 := HYj.out
                  rw [hc] at h2; injection h2 with h2; subst h2
                  rw [H0.out]; exact he)
              clear he
              refine region_BI [(true, 0), (true, 1), (true, 3), (true, 4), (true, 5), (true, 6), (false, 2), (false, 7), (true, 8)] (by kernel_rfl) rfl (by kernel_rfl) ?_
              refine chain_card 26 (g := g8) (off := 0) rfl rfl rfl _ rfl (by kernel_rfl) y (fun w' h => (K8.out.below h).cell) ?_
              refine chain_card 27 (g := g6) (off := 0) rfl rfl rfl _ rfl (by kernel_rfl) x (fun w' h => (K6.out.below h).cell) ?_
              refine chain_pure 29 (v := .slice (some ⟨b1, o1, none⟩) n cp) rfl rfl rfl (fun w => by kernel_rfl) ?_
              refine chain_pure 30 (v := .pointer (some ⟨b1, o1 + 0 * 4, none⟩)) rfl rfl rfl (exec_indexS (k := 0) (n := n) (cp := cp) (by omega) rfl (by kernel_rfl) (by kernel_rfl)) ?_
              refine chain_card 31 rfl rfl rfl _ rfl (by kernel_rfl) y0 (fun w' h => ⟨(Below.cell h (p := ⟨b1, _, none⟩) hb1).trans d0, (Below.cell h (p := ⟨b1, _, none⟩) hb1).trans d1, (Below.cell h (p := ⟨b1, _, none⟩) hb1).trans d2, (Below.cell h (p := ⟨b1, _, none⟩) hb1).trans d3⟩) ?_
              refine chain_card 32 (g := g6) (off := 0) rfl rfl rfl _ rfl (by kernel_rfl) x (fun w' h => (K6.out.below h).cell) ?_
              refine chain_call 28 rfl rfl rfl (fun w => by kernel_rfl) (fun w0 h0 => HV1.out w0) ?_
              refine chain_call 33 rfl rfl rfl (fun w => by kernel_rfl) (fun w0 h0 => HV0.out w0) ?_
              refine chain_pure 34 (v := .bool false) rfl rfl rfl (fun w => by rw [exec_neqI rfl (by kernel_rfl) (by kernel_rfl) w, hb34]) ?_
              intro w4 b4
              simp only [Act.put, List.setIfInBounds_toArray, List.set_cons_zero, List.set_cons_succ]
              have HB := Lib.hid (chain0 HB.out b4)
              have HU := Lib.hid (HU.out.below b4)
              have HO := Lib.hid (HO.out.below b4)
              have K6 := Lib.hid (K6.out.below b4)
              clear b4 K8 d0 d1 d2 d3 hb1 hb34
              go_wp2_with fail
              go_roundw
              case rel => exact ⟨j + 1, by omega, by go_num, HA2, HB, HU, HO, K6⟩
              case measure => simp [intOf]; omega
            · have hb34 : ((valN y x : Int) != (valN y0 x : Int)) = true := by simp; omega
              have HE := Lib.hid (HNo.out (eqv_no HYj.out (by rw [H0.out]; exact he)))
              clear he
              refine region_BI [(true, 0), (true, 1), (true, 3), (true, 4), (true, 5), (true, 6), (false, 2), (false, 7), (true, 8)] (by kernel_rfl) rfl (by kernel_rfl) ?_
              refine chain_card 26 (g := g8) (off := 0) rfl rfl rfl _ rfl (by kernel_rfl) y (fun w' h => (K8.out.below h).cell) ?_
              refine chain_card 27 (g := g6) (off := 0) rfl rfl rfl _ rfl (by kernel_rfl) x (fun w' h => (K6.out.below h).cell) ?_
              refine chain_pure 29 (v := .slice (some ⟨b1, o1, none⟩) n cp) rfl rfl rfl (fun w => by kernel_rfl) ?_
              refine chain_pure 30 (v := .pointer (some ⟨b1, o1 + 0 * 4, none⟩)) rfl rfl rfl (exec_indexS (k := 0) (n := n) (cp := cp) (by omega) rfl (by kernel_rfl) (by kernel_rfl)) ?_
              refine chain_card 31 rfl rfl rfl _ rfl (by kernel_rfl) y0 (fun w' h => ⟨(Below.cell h (p := ⟨b1, _, none⟩) hb1).trans d0, (Below.cell h (p := ⟨b1, _, none⟩) hb1).trans d1, (Below.cell h (p := ⟨b1, _, none⟩) hb1).trans d2, (Below.cell h (p := ⟨b1, _, none⟩) hb1).trans d3⟩) ?_
              refine chain_card 32 (g := g6) (off := 0) rfl rfl rfl _ rfl (by kernel_rfl) x (fun w' h => (K6.out.below h).cell) ?_
              refine chain_call 28 rfl rfl rfl (fun w => by kernel_rfl) (fun w0 h0 => HV1.out w0) ?_
              refine chain_call 33 rfl rfl rfl (fun w => by kernel_rfl) (fun w0 h0 => HV0.out w0) ?_
              refine chain_pure 34 (v := .bool true) rfl rfl rfl (fun w => by rw [exec_neqI rfl (by kernel_rfl) (by kernel_rfl) w, hb34]) ?_
              intro w4 b4
              simp only [Act.put, List.setIfInBounds_toArray, List.set_cons_zero, List.set_cons_succ]
              have HB := Lib.hid (chain0 HB.out b4)
              have HU := Lib.hid (HU.out.below b4)
              have HO := Lib.hid (HO.out.below b4)
              have K6 := Lib.hid (K6.out.below b4)
              clear b4 K8 d0 d1 d2 d3 hb1 hb34
              go_wp2_with fail
              go_roundw
              case rel => exact ⟨k + 1, by omega, by go_num, by rw [HE.out]; exact HO, HB, HU, HAp⟩
              case measure => simp [intOf]; omega
          · obtain rfl : j = n := by omega
            have HE := Lib.hid (HY.out (eqv_yes (fun i c hc => HA.out i c (by rw [← HN.out]; exact (List.getElem?_eq_some_iff.1 hc).1) hc)))
            obtain ⟨k6a, k6b, k6c, k6d⟩ := K6.out.cell
            have k6z := K6.out.lt
            go_wp2_with (at_builtin; refine append_cd_at rfl (.tmp 36) (.tmp 38) rfl w.heap.size _ ((wts.take k).filter (eqv l)) x _ _ rfl rfl rfl HO.out (by have := HL.out; omega) HB.out.size ?_; intro v1 w5 hO1 hB1 hG1 hA1)
            rw [← HE.out] at hO1
            have HU5 := Lib.hid (Own.past HU.out hG1 HAp.out)
            have HA5 := Lib.hid (Ap.next HAp.out (N := wr.heap.size + 1) (fun g h => by have := (HU.out.span g h).2; omega) hA1)
            go_roundw
            case rel => exact ⟨k + 1, by omega, by go_num, hO1, HB.out.trans hB1, HU5, HA5⟩
            case measure => simp [intOf]; omega
      · obtain rfl : k = q := by omega
        have hT : wts.take k = wts := by rw [← HQ.out, List.take_length]
        rw [hT] at HO
        go_wp2_with fail
        (try rw [Exit.noGoto_ret])
        show bodyPost _ _ _ _ _ _
        go_ret2
        exact ⟨_, ret_two (by rw [HT.out]), by rw [HT.out]; exact HO.out, HB.out⟩
end Go.Proofs.Ytdhcdogmbclhaaa.planes
