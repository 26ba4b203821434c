/- Draws: a hand with many lines. -/
import Derived.Test.YtnibkipepmakgaaKp
import Derived.Deep.RegionHeld3
namespace Go.Proofs.Ytnibkipepmakgaa.draw
open Go.RowKit
open cards
set_option linter.unusedVariables false

theorem put_call (L : List Cd) (X : Cd) {gh q ch q1 : Nat} {L1 : List Cd} (hL1 : put L X = L1) (hq1 : L1.length = q1) (hQ : L.length = q) (hq : q ≤ 1000) (hch : q ≤ ch) (hok : L.all Cd.ok = true) (hX : X.ok = true) (hs : sorted L) (w : World) (hr : Rd w (some ⟨gh, 0, none⟩) (flat L)) :
    Calls Try.prog 39 #[.slice (some ⟨gh, 0, none⟩) q ch, X.val] w fun e w' => ∃ g1 c1, e = .returned (.slice (some ⟨g1, 0, none⟩) q1 c1) ∧ q1 ≤ c1 ∧ OwnN w' w.heap.size (.slice (some ⟨g1, 0, none⟩) q1 c1) L1 ∧ Rd w' (some ⟨g1, 0, none⟩) (flat L1) ∧ Below w.heap.size w w' := by
  refine (l2_put L X gh 0 q ch w hQ hq hch hr hok hX hs).mono ?_
  rintro e w' ⟨u, rfl, hu, b⟩
  rw [hL1] at hu
  obtain ⟨g1, c1, hv, hc, hrd⟩ := hu.form
  rw [hq1] at hv hc
  subst hv
  exact ⟨g1, c1, rfl, hc, hu, hrd, b⟩

set_option maxRecDepth 100000 in
set_option maxHeartbeats 8000000 in
theorem dense_ (g : Nat) (p : Option Addr) (n c : Nat) (l : List Int) (N : Nat) (w : World) (hN : N ≤ 600000) (hm : n ≤ 1000000000) (h : Cur w g p n c l N) :
    Calls Try.prog 17 #[.pointer (some ⟨g, 0, none⟩)] w fun e w' => ∃ (u : Value) (L : List Cd), e = .returned u ∧ OwnN w' w.heap.size u L ∧ L.length ≤ 29 ∧ (∀ x ∈ L, wf4 x) ∧ Cur w' g p n c l (N + 300) ∧ w.grownBy w' (some g) := by
  have HF := Lib.hid h.far
  have HL := Lib.hid h.lt
  have HC := Lib.hid h
  clear h
  go_enter Try.func17, Try.ntmps17
  go_wp2_with fail
  refine (hand_ g p n c l N _ (by omega) hm HC.out).mono ?_
  rintro e w1 ⟨u, H, rfl, hO, hH, hW, C, G⟩
  have HO := Lib.hid hO
  have HH := Lib.hid hH
  have HW := Lib.hid hW
  have HC := Lib.hid C
  have HG := Lib.hid G
  obtain ⟨gu, cu, hv, hch, hrd⟩ := hO.form
  obtain ⟨q, hq⟩ : ∃ q, H.length = q := ⟨_, rfl⟩
  rw [hq] at hv hch hH
  subst hv
  have HHd := Lib.hid (l2_hand H (some ⟨gu, 0, none⟩) q cu w1 hq (by omega) hrd)
  have HQ := Lib.hid hq
  clear hO hH hW C G hrd hq
  obtain ⟨bh, hbh⟩ : ∃ bh, handB H = bh := ⟨_, rfl⟩
  rw [hbh] at HHd
  clear hbh
  go_wp2_with fail
  refine (HHd.out).mono ?_
  rintro e w2 ⟨rfl, bl⟩
  have HC := Lib.hid (HC.out.below bl)
  have HG := Lib.hid (Lib.grownBy_below HG.out bl)
  have HO := Lib.hid (HO.out.below bl)
  clear bl HHd
  cases bh
  · go_wp2_with fail
    go_ret
    exact ⟨_, H, rfl, HO.out, HH.out, HW.out, HC.out.more (by omega), HG.out⟩
  · go_wp2_with fail
    refine (one_ 4 g p n c l (N + 200) _ (by omega) hm (by omega) (by omega) HC.out).mono ?_
    rintro e w3 ⟨o, rfl, C, G⟩
    have HC := Lib.hid C
    have HG := Lib.hid (HG.out.trans G)
    have HO := Lib.hid (OwnN.by_ HO.out G HL.out)
    clear C G
    cases o
    · clear HO HH HW
      have HO : Hid (OwnN ((w3.alloc (.cells #[] 54)).alloc (.cells #[.int .i64 2, .int .i64 3, .int .i64 4, .int .i64 5, .int .i64 1] 3)) w.heap.size (.slice (some ⟨w3.heap.size, 0, none⟩) 0 0) []) := Lib.hid ((OwnN.empty w3 w.heap.size HG.out.size).alloc _)
      have HC' : Hid (Cur ((w3.alloc (.cells #[] 54)).alloc (.cells #[.int .i64 2, .int .i64 3, .int .i64 4, .int .i64 5, .int .i64 1] 3)) g p n c l (N + 200 + 2)) := Lib.hid ((HC.out.alloc _).alloc _)
      have HG' : Hid (w.grownBy ((w3.alloc (.cells #[] 54)).alloc (.cells #[.int .i64 2, .int .i64 3, .int .i64 4, .int .i64 5, .int .i64 1] 3)) (some g)) := Lib.hid ((HG.out.trans (World.grownBy_alloc w3 _ (some g))).trans (World.grownBy_alloc _ _ (some g)))
      have HR : Hid (Rd ((w3.alloc (.cells #[] 54)).alloc (.cells #[.int .i64 2, .int .i64 3, .int .i64 4, .int .i64 5, .int .i64 1] 3)) (some ⟨w3.heap.size + 1, 0, none⟩) (nums [2, 3, 4, 5, 1])) := Lib.hid (Rd.newAt (by simp) rfl)
      have HNe : Hid (w3.heap.size + 1 ≠ g) := Lib.hid (by have := HC.out.lt; omega)
      go_wp2_with fail
      refine (among_ [2, 3, 4, 5, 1] g (w3.heap.size + 1) 5 5 p n c l (N + 200 + 2) _ (by omega) hm (by omega) (by omega) rfl HR.out HNe.out HC'.out).mono ?_
      rintro e w4 ⟨a, rfl, ha, C, G⟩
      have ha2 : 1 ≤ a ∧ a ≤ 5 := by simp at ha; omega
      obtain ⟨r0, rfl⟩ : ∃ t : Nat, a = t := ⟨a.toNat, by omega⟩
      have HC := Lib.hid C
      have HG := Lib.hid (HG'.out.trans G)
      have HO := Lib.hid (OwnN.by_ HO.out G HL.out)
      have HI : Hid (([] : List Cd).length ≤ 15 ∧ r0 ≤ 5 ∧ N + 200 + 2 + 2 + 8 * r0 ≤ N + 280) := Lib.hid ⟨by simp, by omega, by omega⟩
      have HS : Hid (([] : List Cd).all Cd.ok = true ∧ sorted []) := Lib.hid ⟨rfl, List.Pairwise.nil⟩
      clear C G ha ha2 HR HNe HC' HG'
      go_wp2_with fail
      go_loopw [4, 5, 6, 7] (fun hv rv _ _ wr => ∃ (r M : Nat) (L : List Cd), rv = .int .i64 r ∧ Hid (L.length ≤ 15 ∧ r ≤ 5 ∧ M + 8 * r ≤ N + 280) ∧ Hid (L.all Cd.ok = true ∧ sorted L) ∧ Hid (OwnN wr w.heap.size hv L) ∧ Hid (Cur wr g p n c l M) ∧ Hid (w.grownBy wr (some g))) (fun _ rv _ _ _ => (intOf rv).toNat)
      case atStart => exact ⟨r0, _, [], rfl, HI, HS, HO, HC, HG⟩
      case round =>
        clear HI HS HO HC HG
        obtain ⟨r, M, L, rfl, HI, HS, HO, HC, HG⟩ := hrel
        have hM : M ≤ 700000 := by have := HI.out.2.2; omega
        by_cases hr : 0 < r
        · have hr2 : r ≤ 5 := HI.out.2.1
          obtain ⟨gh, ch, hv, hch, hrd⟩ := HO.out.form
          obtain ⟨q, hq⟩ : ∃ q, L.length = q := ⟨_, rfl⟩
          rw [hq] at hv hch
          have hq2 : q ≤ 15 := by have := HI.out.1; omega
          subst hv
          have HQ := Lib.hid hq
          have HCh := Lib.hid hch
          clear hq hrd hch
          go_wp2_with fail
          refine (pick_ 81 g p n c l M _ (by omega) hm (by omega) (by omega) HC.out).mono ?_
          rintro e w5 ⟨b, rfl, b0, b1, C, G⟩
          have HC := Lib.hid C
          have HG := Lib.hid (HG.out.trans G)
          have HO := Lib.hid (OwnN.by_ HO.out G HL.out)
          clear C G
          go_wp2_with fail
          refine (l2_at b _ b0 (by omega)).mono ?_
          rintro e w6 ⟨rfl, bl⟩
          have HC := Lib.hid (HC.out.below bl)
          have HG := Lib.hid (Lib.grownBy_below HG.out bl)
          have HO := Lib.hid (HO.out.below bl)
          have HX := Lib.hid (cdAt_okC b0 (by omega))
          clear bl
          obtain ⟨x, hx⟩ : ∃ x, cdAt b = x := ⟨_, rfl⟩
          rw [hx] at HX
          simp only [hx]
          clear hx b0 b1
          go_wp2_with fail
          refine (pick_ 81 g p n c l (M + 2) _ (by omega) hm (by omega) (by omega) HC.out).mono ?_
          rintro e w7 ⟨b2, rfl, b0, b1, C, G⟩
          have HC := Lib.hid C
          have HG := Lib.hid (HG.out.trans G)
          have HO := Lib.hid (OwnN.by_ HO.out G HL.out)
          clear C G
          go_wp2_with fail
          refine (l2_at b2 _ b0 (by omega)).mono ?_
          rintro e w8 ⟨rfl, bl⟩
          have HC := Lib.hid (HC.out.below bl)
          have HG := Lib.hid (Lib.grownBy_below HG.out bl)
          have HO := Lib.hid (HO.out.below bl)
          have HY := Lib.hid (cdAt_okC b0 (by omega))
          clear bl
          obtain ⟨y, hy⟩ : ∃ y, cdAt b2 = y := ⟨_, rfl⟩
          rw [hy] at HY
          simp only [hy]
          clear hy b0 b1
          go_upto_region 9 with fail
          have K6 : Hid (Box ((w8.alloc x.obj).alloc y.obj) w8.heap.size x) := Lib.hid ((Box.newAt rfl rfl).alloc _)
          have K7 : Hid (Box ((w8.alloc x.obj).alloc y.obj) (w8.heap.size + 1) y) := Lib.hid (Box.newAt (by simp) rfl)
          have HC := Lib.hid ((HC.out.alloc x.obj).alloc y.obj)
          have HN6 : Hid (gh < w8.heap.size) := Lib.hid (World.ownsRow.lt HO.out.1 gh rfl).2
          have HO := Lib.hid ((HO.out.alloc x.obj).alloc y.obj)
          have HG6 : Hid (w.heap.size ≤ w8.heap.size) := Lib.hid HG.out.size
          have HG := Lib.hid ((HG.out.trans (World.grownBy_alloc _ x.obj (some g))).trans (World.grownBy_alloc _ y.obj (some g)))
          generalize (w8.alloc x.obj).alloc y.obj = w9 at *
          obtain ⟨g6, hg6⟩ : ∃ g6, w8.heap.size = g6 := ⟨_, rfl⟩
          rw [hg6] at K6 K7 HN6 HG6
          rw [hg6]
          clear hg6
          have HH6 : Hid (g < g6) := Lib.hid (by have := HG6.out; have := HL.out; omega)
          by_cases hq1 : 1 < q
          · have hd : decide (1 < q) = true := decide_eq_true hq1
            go_upto_region 9 with fail
            go_wp2_with fail
            refine (one_ 2 g p n c l (M + 2 + 2) _ (by omega) hm (by omega) (by omega) HC.out).mono ?_
            rintro e w10 ⟨o, rfl, C, G⟩
            have HC := Lib.hid C
            have HG := Lib.hid (HG.out.trans G)
            have HO := Lib.hid (OwnN.by_ HO.out G HL.out)
            have K6 := Lib.hid (Box.by_ K6.out G (Nat.ne_of_lt HH6.out))
            have K7 := Lib.hid (Box.by_ K7.out G (by have := HH6.out; omega))
            have HQ1 := Lib.hid hq1
            clear C G hd hq1
            cases o
            · go_upto_region 11 with fail
              obtain ⟨k6a, k6b, k6c, k6d⟩ := K6.out.cell
              obtain ⟨k7a, k7b, k7c, k7d⟩ := K7.out.cell
              have he := eq_run x y HX.out HY.out
              cases hz : same x y
              · rw [hz] at he
                clear hz
                by_cases hq13 : q < 13
                · have hd2 : decide (q < 13) = true := decide_eq_true hq13
                  go_upto_region 12 with fail
                  clear hd2 he
                  obtain ⟨L1, hL1⟩ : ∃ L1, put L x = L1 := ⟨_, rfl⟩
                  obtain ⟨L2, hL2⟩ : ∃ L2, put L1 y = L2 := ⟨_, rfl⟩
                  obtain ⟨T, hT⟩ : ∃ T, third x y = T := ⟨_, rfl⟩
                  obtain ⟨L3, hL3⟩ : ∃ L3, put L2 T = L3 := ⟨_, rfl⟩
                  obtain ⟨q1, hq1⟩ : ∃ q1, L1.length = q1 := ⟨_, rfl⟩
                  obtain ⟨q2, hq2⟩ : ∃ q2, L2.length = q2 := ⟨_, rfl⟩
                  obtain ⟨q3, hq3⟩ : ∃ q3, L3.length = q3 := ⟨_, rfl⟩
                  have t0 : T.ok = true := by rw [← hT]; exact third_ok _ _
                  have s1 : sorted L1 := by rw [← hL1]; exact put_sorted HS.out.2 HS.out.1 HX.out
                  have o1 : L1.all Cd.ok = true := by rw [← hL1]; exact put_ok HS.out.2 HS.out.1 HX.out
                  have l1 : q1 ≤ q + 1 := by rw [← hq1, ← hL1, ← HQ.out]; exact put_length _ _
                  have s2 : sorted L2 := by rw [← hL2]; exact put_sorted s1 o1 HY.out
                  have o2 : L2.all Cd.ok = true := by rw [← hL2]; exact put_ok s1 o1 HY.out
                  have l2 : q2 ≤ q1 + 1 := by rw [← hq2, ← hL2, ← hq1]; exact put_length _ _
                  have s3 : sorted L3 := by rw [← hL3]; exact put_sorted s2 o2 t0
                  have o3 : L3.all Cd.ok = true := by rw [← hL3]; exact put_ok s2 o2 t0
                  have l3 : q3 ≤ q2 + 1 := by rw [← hq3, ← hL3, ← hq2]; exact put_length _ _
                  have HP1 := Lib.hid (fun w' h => put_call L x (gh := gh) (ch := ch) hL1 hq1 HQ.out (by omega) HCh.out HS.out.1 HX.out HS.out.2 w' h)
                  have HP2 := Lib.hid (fun gh' ch' h0 w' h => put_call L1 y (gh := gh') (ch := ch') hL2 hq2 hq1 (by omega) h0 o1 HY.out s1 w' h)
                  have HP3 := Lib.hid (fun gh' ch' h0 w' h => put_call L2 T (gh := gh') (ch := ch') hL3 hq3 hq2 (by omega) h0 o2 t0 s2 w' h)
                  have HT3 := Lib.hid (fun w' => l2_third x y w' HX.out HY.out)
                  rw [hT] at HT3
                  have HF3 := Lib.hid (show L3.length ≤ 15 ∧ L3.all Cd.ok = true ∧ sorted L3 from ⟨by omega, o3, s3⟩)
                  clear hL1 hL2 hT hL3 hq1 hq2 hq3 t0 s1 o1 l1 s2 o2 l2 s3 o3 l3 hq13
                  have HRL : Hid (Rd w10.drew (some ⟨gh, 0, none⟩) (flat L)) := Lib.hid (show Rd w10 (some ⟨gh, 0, none⟩) (flat L) from Own.rd HO.out.1)
                  have HC := Lib.hid HC.out.drew
                  have HG := Lib.hid (Lib.grownBy_below HG.out ((Below.refl _ _).drew))
                  have K6 := Lib.hid K6.out.drew
                  have K7 := Lib.hid K7.out.drew
                  clear HO
                  go_region_held3 (fun w' => w'.cell? ⟨g6, 0, none⟩ = some (.int .i64 x.a) ∧ w'.cell? ⟨g6, 1, none⟩ = some (.int .i64 x.b) ∧ w'.cell? ⟨g6, 2, none⟩ = some (.int .i64 x.c) ∧ w'.cell? ⟨g6, 3, none⟩ = some (.int .i64 x.d) ∧ w'.cell? ⟨g6 + 1, 0, none⟩ = some (.int .i64 y.a) ∧ w'.cell? ⟨g6 + 1, 1, none⟩ = some (.int .i64 y.b) ∧ w'.cell? ⟨g6 + 1, 2, none⟩ = some (.int .i64 y.c) ∧ w'.cell? ⟨g6 + 1, 3, none⟩ = some (.int .i64 y.d)) (first | exact ⟨k6a, k6b, k6c, k6d, k7a, k7b, k7c, k7d⟩ | go_keep) (first
                    | (go_at_call 30; refine (HT3.out _).mono ?_; rintro e wq ⟨rfl, b⟩; have HC := Lib.hid (Cur.below HC.out b); have HG := Lib.hid (Lib.grownBy_below HG.out b); have K6 := Lib.hid (Box.below K6.out b); have K7 := Lib.hid (Box.below K7.out b); have HRL := Lib.hid (Rd.below HRL.out b); (first | (have HR1 := Lib.hid (Rd.below HR1.out b)) | skip); (first | (have HR2 := Lib.hid (Rd.below HR2.out b)) | skip); (first | (have HO3 := Lib.hid (OwnN.below HO3.out b)) | skip); clear k6a k6b k6c k6d k7a k7b k7c k7d; obtain ⟨k6a, k6b, k6c, k6d⟩ := K6.out.cell; obtain ⟨k7a, k7b, k7c, k7d⟩ := K7.out.cell; clear b)
                    | (go_at_call 39; first
                        | ((with_reducible refine Calls.mono (HP1.out _ HRL.out) ?_); rintro e wq ⟨g1, ca1, rfl, hc1, ho1, hr1, b⟩; have HC := Lib.hid (Cur.below HC.out b); have HG := Lib.hid (Lib.grownBy_below HG.out b); have K6 := Lib.hid (Box.below K6.out b); have K7 := Lib.hid (Box.below K7.out b); have HRL := Lib.hid (Rd.below HRL.out b); (first | (have HR1 := Lib.hid (Rd.below HR1.out b)) | skip); (first | (have HR2 := Lib.hid (Rd.below HR2.out b)) | skip); (first | (have HO3 := Lib.hid (OwnN.below HO3.out b)) | skip); clear k6a k6b k6c k6d k7a k7b k7c k7d; obtain ⟨k6a, k6b, k6c, k6d⟩ := K6.out.cell; obtain ⟨k7a, k7b, k7c, k7d⟩ := K7.out.cell; clear b; have HR1 := Lib.hid hr1; have HC1 := Lib.hid hc1; clear hc1 ho1 hr1)
                        | ((with_reducible refine Calls.mono (HP2.out _ _ HC1.out _ HR1.out) ?_); rintro e wq ⟨g2, ca2, rfl, hc2, ho2, hr2, b⟩; have HC := Lib.hid (Cur.below HC.out b); have HG := Lib.hid (Lib.grownBy_below HG.out b); have K6 := Lib.hid (Box.below K6.out b); have K7 := Lib.hid (Box.below K7.out b); have HRL := Lib.hid (Rd.below HRL.out b); (first | (have HR1 := Lib.hid (Rd.below HR1.out b)) | skip); (first | (have HR2 := Lib.hid (Rd.below HR2.out b)) | skip); (first | (have HO3 := Lib.hid (OwnN.below HO3.out b)) | skip); clear k6a k6b k6c k6d k7a k7b k7c k7d; obtain ⟨k6a, k6b, k6c, k6d⟩ := K6.out.cell; obtain ⟨k7a, k7b, k7c, k7d⟩ := K7.out.cell; clear b; have HR2 := Lib.hid hr2; have HC2 := Lib.hid hc2; clear hc2 ho2 hr2)
                        | ((with_reducible refine Calls.mono (HP3.out _ _ HC2.out _ HR2.out) ?_); rintro e wq ⟨g3, ca3, rfl, hc3, ho3, hr3, b⟩; have HO3 := Lib.hid (ho3.base HG.out.size); have HC := Lib.hid (Cur.below HC.out b); have HG := Lib.hid (Lib.grownBy_below HG.out b); have K6 := Lib.hid (Box.below K6.out b); have K7 := Lib.hid (Box.below K7.out b); clear k6a k6b k6c k6d k7a k7b k7c k7d; obtain ⟨k6a, k6b, k6c, k6d⟩ := K6.out.cell; obtain ⟨k7a, k7b, k7c, k7d⟩ := K7.out.cell; clear b hc3 ho3 hr3)))
                  all_goals
                    go_wp2_with fail
                    go_roundw
                    case rel => exact ⟨r - 1, M + 2 + 2 + 2, L3, by go_num, Lib.hid ⟨HF3.out.1, by omega, by have := HI.out.2.2; omega⟩, Lib.hid HF3.out.2, HO3, HC, HG⟩
                    case measure => simp [intOf]; omega
                · have hd2 : decide (q < 13) = false := decide_eq_false hq13
                  go_wp2_with fail
                  go_roundw
                  case rel => exact ⟨r - 1, M + 2 + 2 + 2, L, by go_num, Lib.hid ⟨HI.out.1, by omega, by have := HI.out.2.2; omega⟩, HS, HO, HC, HG⟩
                  case measure => simp [intOf]; omega
              · rw [hz] at he
                clear hz
                go_wp2_with fail
                go_roundw
                case rel => exact ⟨r - 1, M + 2 + 2 + 2, L, by go_num, Lib.hid ⟨HI.out.1, by omega, by have := HI.out.2.2; omega⟩, HS, HO, HC, HG⟩
                case measure => simp [intOf]; omega
            · have hq0 : (1 : Int) ≤ (q : Int) := by have := HQ1.out; omega
              go_wp2_with fail
              refine (pick_ q g p n c l (M + 2 + 2 + 2) _ (by omega) hm hq0 (by omega) HC.out).mono ?_
              rintro e w11 ⟨k, rfl, i0, i1, C, G⟩
              have HC := Lib.hid C
              have HG := Lib.hid (HG.out.trans G)
              have HO := Lib.hid (OwnN.by_ HO.out G HL.out)
              have K6 := Lib.hid (Box.by_ K6.out G (Nat.ne_of_lt HH6.out))
              have K7 := Lib.hid (Box.by_ K7.out G (by have := HH6.out; omega))
              clear C G
              obtain ⟨k, rfl⟩ : ∃ j : Nat, k = j := ⟨k.toNat, by omega⟩
              obtain ⟨z, hz0⟩ : ∃ z, L[k]? = some z := ⟨_, List.getElem?_eq_getElem (by rw [HQ.out]; omega)⟩
              have HZk := Lib.hid (ok_at HS.out.1 hz0)
              obtain ⟨c0, c1, c2, c3⟩ := (Own.rd HO.out.1).at_ hz0
              rw [Nat.zero_add] at c0 c1 c2 c3
              obtain ⟨d0, d1, d2, d3⟩ := K6.out.cell
              have f6 := K6.out.frozen
              have z6 := K6.out.lt
              clear hz0
              go_upto_region 11 with fail
              have K6 := Lib.hid (Box.set_ K6.out z)
              have K7 := Lib.hid (Box.by_ K7.out (grown_set4 w11 g6 z) (by omega))
              have HO := Lib.hid (OwnN.off HO.out (grown_set4 w11 g6 z) (fun b hb => by
                have h : gh = b := by simpa [Value.ownBlock] using hb
                have := HN6.out; omega))
              have HC := Lib.hid (Cur.by2 HC.out (grown_set4 w11 g6 z) (by have := HH6.out; omega) (fun h0 q e => by have := HF.out h0 q e; have := HG6.out; omega))
              have HG := Lib.hid (grown_fresh HG.out (grown_set4 w11 g6 z) HG6.out)
              generalize ((((w11.setCell ⟨g6, 0, none⟩ (.int .i64 z.a)).setCell ⟨g6, 1, none⟩ (.int .i64 z.b)).setCell ⟨g6, 2, none⟩ (.int .i64 z.c)).setCell ⟨g6, 3, none⟩ (.int .i64 z.d)) = w13 at *
              clear c0 c1 c2 c3 d0 d1 d2 d3 f6 z6 hq0 i0 i1
              obtain ⟨k6a, k6b, k6c, k6d⟩ := K6.out.cell
              obtain ⟨k7a, k7b, k7c, k7d⟩ := K7.out.cell
              have he := eq_run z y HZk.out HY.out
              cases hz : same z y
              · rw [hz] at he
                clear hz
                by_cases hq13 : q < 13
                · have hd2 : decide (q < 13) = true := decide_eq_true hq13
                  go_upto_region 12 with fail
                  clear hd2 he
                  obtain ⟨L1, hL1⟩ : ∃ L1, put L z = L1 := ⟨_, rfl⟩
                  obtain ⟨L2, hL2⟩ : ∃ L2, put L1 y = L2 := ⟨_, rfl⟩
                  obtain ⟨T, hT⟩ : ∃ T, third z y = T := ⟨_, rfl⟩
                  obtain ⟨L3, hL3⟩ : ∃ L3, put L2 T = L3 := ⟨_, rfl⟩
                  obtain ⟨q1, hq1⟩ : ∃ q1, L1.length = q1 := ⟨_, rfl⟩
                  obtain ⟨q2, hq2⟩ : ∃ q2, L2.length = q2 := ⟨_, rfl⟩
                  obtain ⟨q3, hq3⟩ : ∃ q3, L3.length = q3 := ⟨_, rfl⟩
                  have t0 : T.ok = true := by rw [← hT]; exact third_ok _ _
                  have s1 : sorted L1 := by rw [← hL1]; exact put_sorted HS.out.2 HS.out.1 HZk.out
                  have o1 : L1.all Cd.ok = true := by rw [← hL1]; exact put_ok HS.out.2 HS.out.1 HZk.out
                  have l1 : q1 ≤ q + 1 := by rw [← hq1, ← hL1, ← HQ.out]; exact put_length _ _
                  have s2 : sorted L2 := by rw [← hL2]; exact put_sorted s1 o1 HY.out
                  have o2 : L2.all Cd.ok = true := by rw [← hL2]; exact put_ok s1 o1 HY.out
                  have l2 : q2 ≤ q1 + 1 := by rw [← hq2, ← hL2, ← hq1]; exact put_length _ _
                  have s3 : sorted L3 := by rw [← hL3]; exact put_sorted s2 o2 t0
                  have o3 : L3.all Cd.ok = true := by rw [← hL3]; exact put_ok s2 o2 t0
                  have l3 : q3 ≤ q2 + 1 := by rw [← hq3, ← hL3, ← hq2]; exact put_length _ _
                  have HP1 := Lib.hid (fun w' h => put_call L z (gh := gh) (ch := ch) hL1 hq1 HQ.out (by omega) HCh.out HS.out.1 HZk.out HS.out.2 w' h)
                  have HP2 := Lib.hid (fun gh' ch' h0 w' h => put_call L1 y (gh := gh') (ch := ch') hL2 hq2 hq1 (by omega) h0 o1 HY.out s1 w' h)
                  have HP3 := Lib.hid (fun gh' ch' h0 w' h => put_call L2 T (gh := gh') (ch := ch') hL3 hq3 hq2 (by omega) h0 o2 t0 s2 w' h)
                  have HT3 := Lib.hid (fun w' => l2_third z y w' HZk.out HY.out)
                  rw [hT] at HT3
                  have HF3 := Lib.hid (show L3.length ≤ 15 ∧ L3.all Cd.ok = true ∧ sorted L3 from ⟨by omega, o3, s3⟩)
                  clear hL1 hL2 hT hL3 hq1 hq2 hq3 t0 s1 o1 l1 s2 o2 l2 s3 o3 l3 hq13
                  have HRL : Hid (Rd w13.drew (some ⟨gh, 0, none⟩) (flat L)) := Lib.hid (show Rd w13 (some ⟨gh, 0, none⟩) (flat L) from Own.rd HO.out.1)
                  have HC := Lib.hid HC.out.drew
                  have HG := Lib.hid (Lib.grownBy_below HG.out ((Below.refl _ _).drew))
                  have K6 := Lib.hid K6.out.drew
                  have K7 := Lib.hid K7.out.drew
                  clear HO
                  go_region_held3 (fun w' => w'.cell? ⟨g6, 0, none⟩ = some (.int .i64 z.a) ∧ w'.cell? ⟨g6, 1, none⟩ = some (.int .i64 z.b) ∧ w'.cell? ⟨g6, 2, none⟩ = some (.int .i64 z.c) ∧ w'.cell? ⟨g6, 3, none⟩ = some (.int .i64 z.d) ∧ w'.cell? ⟨g6 + 1, 0, none⟩ = some (.int .i64 y.a) ∧ w'.cell? ⟨g6 + 1, 1, none⟩ = some (.int .i64 y.b) ∧ w'.cell? ⟨g6 + 1, 2, none⟩ = some (.int .i64 y.c) ∧ w'.cell? ⟨g6 + 1, 3, none⟩ = some (.int .i64 y.d)) (first | exact ⟨k6a, k6b, k6c, k6d, k7a, k7b, k7c, k7d⟩ | go_keep) (first
                    | (go_at_call 30; refine (HT3.out _).mono ?_; rintro e wq ⟨rfl, b⟩; have HC := Lib.hid (Cur.below HC.out b); have HG := Lib.hid (Lib.grownBy_below HG.out b); have K6 := Lib.hid (Box.below K6.out b); have K7 := Lib.hid (Box.below K7.out b); have HRL := Lib.hid (Rd.below HRL.out b); (first | (have HR1 := Lib.hid (Rd.below HR1.out b)) | skip); (first | (have HR2 := Lib.hid (Rd.below HR2.out b)) | skip); (first | (have HO3 := Lib.hid (OwnN.below HO3.out b)) | skip); clear k6a k6b k6c k6d k7a k7b k7c k7d; obtain ⟨k6a, k6b, k6c, k6d⟩ := K6.out.cell; obtain ⟨k7a, k7b, k7c, k7d⟩ := K7.out.cell; clear b)
                    | (go_at_call 39; first
                        | ((with_reducible refine Calls.mono (HP1.out _ HRL.out) ?_); rintro e wq ⟨g1, ca1, rfl, hc1, ho1, hr1, b⟩; have HC := Lib.hid (Cur.below HC.out b); have HG := Lib.hid (Lib.grownBy_below HG.out b); have K6 := Lib.hid (Box.below K6.out b); have K7 := Lib.hid (Box.below K7.out b); have HRL := Lib.hid (Rd.below HRL.out b); (first | (have HR1 := Lib.hid (Rd.below HR1.out b)) | skip); (first | (have HR2 := Lib.hid (Rd.below HR2.out b)) | skip); (first | (have HO3 := Lib.hid (OwnN.below HO3.out b)) | skip); clear k6a k6b k6c k6d k7a k7b k7c k7d; obtain ⟨k6a, k6b, k6c, k6d⟩ := K6.out.cell; obtain ⟨k7a, k7b, k7c, k7d⟩ := K7.out.cell; clear b; have HR1 := Lib.hid hr1; have HC1 := Lib.hid hc1; clear hc1 ho1 hr1)
                        | ((with_reducible refine Calls.mono (HP2.out _ _ HC1.out _ HR1.out) ?_); rintro e wq ⟨g2, ca2, rfl, hc2, ho2, hr2, b⟩; have HC := Lib.hid (Cur.below HC.out b); have HG := Lib.hid (Lib.grownBy_below HG.out b); have K6 := Lib.hid (Box.below K6.out b); have K7 := Lib.hid (Box.below K7.out b); have HRL := Lib.hid (Rd.below HRL.out b); (first | (have HR1 := Lib.hid (Rd.below HR1.out b)) | skip); (first | (have HR2 := Lib.hid (Rd.below HR2.out b)) | skip); (first | (have HO3 := Lib.hid (OwnN.below HO3.out b)) | skip); clear k6a k6b k6c k6d k7a k7b k7c k7d; obtain ⟨k6a, k6b, k6c, k6d⟩ := K6.out.cell; obtain ⟨k7a, k7b, k7c, k7d⟩ := K7.out.cell; clear b; have HR2 := Lib.hid hr2; have HC2 := Lib.hid hc2; clear hc2 ho2 hr2)
                        | ((with_reducible refine Calls.mono (HP3.out _ _ HC2.out _ HR2.out) ?_); rintro e wq ⟨g3, ca3, rfl, hc3, ho3, hr3, b⟩; have HO3 := Lib.hid (ho3.base HG.out.size); have HC := Lib.hid (Cur.below HC.out b); have HG := Lib.hid (Lib.grownBy_below HG.out b); have K6 := Lib.hid (Box.below K6.out b); have K7 := Lib.hid (Box.below K7.out b); clear k6a k6b k6c k6d k7a k7b k7c k7d; obtain ⟨k6a, k6b, k6c, k6d⟩ := K6.out.cell; obtain ⟨k7a, k7b, k7c, k7d⟩ := K7.out.cell; clear b hc3 ho3 hr3)))
                  all_goals
                    go_wp2_with fail
                    go_roundw
                    case rel => exact ⟨r - 1, M + 2 + 2 + 2 + 2, L3, by go_num, Lib.hid ⟨HF3.out.1, by omega, by have := HI.out.2.2; omega⟩, Lib.hid HF3.out.2, HO3, HC, HG⟩
                    case measure => simp [intOf]; omega
                · have hd2 : decide (q < 13) = false := decide_eq_false hq13
                  go_wp2_with fail
                  go_roundw
                  case rel => exact ⟨r - 1, M + 2 + 2 + 2 + 2, L, by go_num, Lib.hid ⟨HI.out.1, by omega, by have := HI.out.2.2; omega⟩, HS, HO, HC, HG⟩
                  case measure => simp [intOf]; omega
              · rw [hz] at he
                clear hz
                go_wp2_with fail
                go_roundw
                case rel => exact ⟨r - 1, M + 2 + 2 + 2 + 2, L, by go_num, Lib.hid ⟨HI.out.1, by omega, by have := HI.out.2.2; omega⟩, HS, HO, HC, HG⟩
                case measure => simp [intOf]; omega
          · have hd : decide (1 < q) = false := decide_eq_false hq1
            go_upto_region 11 with fail
            clear hd
            obtain ⟨k6a, k6b, k6c, k6d⟩ := K6.out.cell
            obtain ⟨k7a, k7b, k7c, k7d⟩ := K7.out.cell
            have he := eq_run x y HX.out HY.out
            cases hz : same x y
            · rw [hz] at he
              clear hz
              by_cases hq13 : q < 13
              · have hd2 : decide (q < 13) = true := decide_eq_true hq13
                go_upto_region 12 with fail
                clear hd2 he
                obtain ⟨L1, hL1⟩ : ∃ L1, put L x = L1 := ⟨_, rfl⟩
                obtain ⟨L2, hL2⟩ : ∃ L2, put L1 y = L2 := ⟨_, rfl⟩
                obtain ⟨T, hT⟩ : ∃ T, third x y = T := ⟨_, rfl⟩
                obtain ⟨L3, hL3⟩ : ∃ L3, put L2 T = L3 := ⟨_, rfl⟩
                obtain ⟨q1, hq1⟩ : ∃ q1, L1.length = q1 := ⟨_, rfl⟩
                obtain ⟨q2, hq2⟩ : ∃ q2, L2.length = q2 := ⟨_, rfl⟩
                obtain ⟨q3, hq3⟩ : ∃ q3, L3.length = q3 := ⟨_, rfl⟩
                have t0 : T.ok = true := by rw [← hT]; exact third_ok _ _
                have s1 : sorted L1 := by rw [← hL1]; exact put_sorted HS.out.2 HS.out.1 HX.out
                have o1 : L1.all Cd.ok = true := by rw [← hL1]; exact put_ok HS.out.2 HS.out.1 HX.out
                have l1 : q1 ≤ q + 1 := by rw [← hq1, ← hL1, ← HQ.out]; exact put_length _ _
                have s2 : sorted L2 := by rw [← hL2]; exact put_sorted s1 o1 HY.out
                have o2 : L2.all Cd.ok = true := by rw [← hL2]; exact put_ok s1 o1 HY.out
                have l2 : q2 ≤ q1 + 1 := by rw [← hq2, ← hL2, ← hq1]; exact put_length _ _
                have s3 : sorted L3 := by rw [← hL3]; exact put_sorted s2 o2 t0
                have o3 : L3.all Cd.ok = true := by rw [← hL3]; exact put_ok s2 o2 t0
                have l3 : q3 ≤ q2 + 1 := by rw [← hq3, ← hL3, ← hq2]; exact put_length _ _
                have HP1 := Lib.hid (fun w' h => put_call L x (gh := gh) (ch := ch) hL1 hq1 HQ.out (by omega) HCh.out HS.out.1 HX.out HS.out.2 w' h)
                have HP2 := Lib.hid (fun gh' ch' h0 w' h => put_call L1 y (gh := gh') (ch := ch') hL2 hq2 hq1 (by omega) h0 o1 HY.out s1 w' h)
                have HP3 := Lib.hid (fun gh' ch' h0 w' h => put_call L2 T (gh := gh') (ch := ch') hL3 hq3 hq2 (by omega) h0 o2 t0 s2 w' h)
                have HT3 := Lib.hid (fun w' => l2_third x y w' HX.out HY.out)
                rw [hT] at HT3
                have HF3 := Lib.hid (show L3.length ≤ 15 ∧ L3.all Cd.ok = true ∧ sorted L3 from ⟨by omega, o3, s3⟩)
                clear hL1 hL2 hT hL3 hq1 hq2 hq3 t0 s1 o1 l1 s2 o2 l2 s3 o3 l3 hq13
                have HRL : Hid (Rd w9.drew (some ⟨gh, 0, none⟩) (flat L)) := Lib.hid (show Rd w9 (some ⟨gh, 0, none⟩) (flat L) from Own.rd HO.out.1)
                have HC := Lib.hid HC.out.drew
                have HG := Lib.hid (Lib.grownBy_below HG.out ((Below.refl _ _).drew))
                have K6 := Lib.hid K6.out.drew
                have K7 := Lib.hid K7.out.drew
                clear HO
                go_region_held3 (fun w' => w'.cell? ⟨g6, 0, none⟩ = some (.int .i64 x.a) ∧ w'.cell? ⟨g6, 1, none⟩ = some (.int .i64 x.b) ∧ w'.cell? ⟨g6, 2, none⟩ = some (.int .i64 x.c) ∧ w'.cell? ⟨g6, 3, none⟩ = some (.int .i64 x.d) ∧ w'.cell? ⟨g6 + 1, 0, none⟩ = some (.int .i64 y.a) ∧ w'.cell? ⟨g6 + 1, 1, none⟩ = some (.int .i64 y.b) ∧ w'.cell? ⟨g6 + 1, 2, none⟩ = some (.int .i64 y.c) ∧ w'.cell? ⟨g6 + 1, 3, none⟩ = some (.int .i64 y.d)) (first | exact ⟨k6a, k6b, k6c, k6d, k7a, k7b, k7c, k7d⟩ | go_keep) (first
                  | (go_at_call 30; refine (HT3.out _).mono ?_; rintro e wq ⟨rfl, b⟩; have HC := Lib.hid (Cur.below HC.out b); have HG := Lib.hid (Lib.grownBy_below HG.out b); have K6 := Lib.hid (Box.below K6.out b); have K7 := Lib.hid (Box.below K7.out b); have HRL := Lib.hid (Rd.below HRL.out b); (first | (have HR1 := Lib.hid (Rd.below HR1.out b)) | skip); (first | (have HR2 := Lib.hid (Rd.below HR2.out b)) | skip); (first | (have HO3 := Lib.hid (OwnN.below HO3.out b)) | skip); clear k6a k6b k6c k6d k7a k7b k7c k7d; obtain ⟨k6a, k6b, k6c, k6d⟩ := K6.out.cell; obtain ⟨k7a, k7b, k7c, k7d⟩ := K7.out.cell; clear b)
                  | (go_at_call 39; first
                      | ((with_reducible refine Calls.mono (HP1.out _ HRL.out) ?_); rintro e wq ⟨g1, ca1, rfl, hc1, ho1, hr1, b⟩; have HC := Lib.hid (Cur.below HC.out b); have HG := Lib.hid (Lib.grownBy_below HG.out b); have K6 := Lib.hid (Box.below K6.out b); have K7 := Lib.hid (Box.below K7.out b); have HRL := Lib.hid (Rd.below HRL.out b); (first | (have HR1 := Lib.hid (Rd.below HR1.out b)) | skip); (first | (have HR2 := Lib.hid (Rd.below HR2.out b)) | skip); (first | (have HO3 := Lib.hid (OwnN.below HO3.out b)) | skip); clear k6a k6b k6c k6d k7a k7b k7c k7d; obtain ⟨k6a, k6b, k6c, k6d⟩ := K6.out.cell; obtain ⟨k7a, k7b, k7c, k7d⟩ := K7.out.cell; clear b; have HR1 := Lib.hid hr1; have HC1 := Lib.hid hc1; clear hc1 ho1 hr1)
                      | ((with_reducible refine Calls.mono (HP2.out _ _ HC1.out _ HR1.out) ?_); rintro e wq ⟨g2, ca2, rfl, hc2, ho2, hr2, b⟩; have HC := Lib.hid (Cur.below HC.out b); have HG := Lib.hid (Lib.grownBy_below HG.out b); have K6 := Lib.hid (Box.below K6.out b); have K7 := Lib.hid (Box.below K7.out b); have HRL := Lib.hid (Rd.below HRL.out b); (first | (have HR1 := Lib.hid (Rd.below HR1.out b)) | skip); (first | (have HR2 := Lib.hid (Rd.below HR2.out b)) | skip); (first | (have HO3 := Lib.hid (OwnN.below HO3.out b)) | skip); clear k6a k6b k6c k6d k7a k7b k7c k7d; obtain ⟨k6a, k6b, k6c, k6d⟩ := K6.out.cell; obtain ⟨k7a, k7b, k7c, k7d⟩ := K7.out.cell; clear b; have HR2 := Lib.hid hr2; have HC2 := Lib.hid hc2; clear hc2 ho2 hr2)
                      | ((with_reducible refine Calls.mono (HP3.out _ _ HC2.out _ HR2.out) ?_); rintro e wq ⟨g3, ca3, rfl, hc3, ho3, hr3, b⟩; have HO3 := Lib.hid (ho3.base HG.out.size); have HC := Lib.hid (Cur.below HC.out b); have HG := Lib.hid (Lib.grownBy_below HG.out b); have K6 := Lib.hid (Box.below K6.out b); have K7 := Lib.hid (Box.below K7.out b); clear k6a k6b k6c k6d k7a k7b k7c k7d; obtain ⟨k6a, k6b, k6c, k6d⟩ := K6.out.cell; obtain ⟨k7a, k7b, k7c, k7d⟩ := K7.out.cell; clear b hc3 ho3 hr3)))
                all_goals
                  go_wp2_with fail
                  go_roundw
                  case rel => exact ⟨r - 1, M + 2 + 2, L3, by go_num, Lib.hid ⟨HF3.out.1, by omega, by have := HI.out.2.2; omega⟩, Lib.hid HF3.out.2, HO3, HC, HG⟩
                  case measure => simp [intOf]; omega
              · omega
            · rw [hz] at he
              clear hz
              go_wp2_with fail
              go_roundw
              case rel => exact ⟨r - 1, M + 2 + 2, L, by go_num, Lib.hid ⟨HI.out.1, by omega, by have := HI.out.2.2; omega⟩, HS, HO, HC, HG⟩
              case measure => simp [intOf]; omega
        · obtain rfl : r = 0 := by omega
          go_wp2_with fail
          go_ret
          exact ⟨_, L, rfl, HO.out, by have := HI.out.1; omega, wf_all HS.out.1, HC.out.more (by have := HI.out.2.2; omega), HG.out⟩
    · go_wp2_with fail
      go_ret
      exact ⟨_, H, rfl, HO.out, HH.out, HW.out, HC.out.more (by omega), HG.out⟩
end Go.Proofs.Ytnibkipepmakgaa.draw
