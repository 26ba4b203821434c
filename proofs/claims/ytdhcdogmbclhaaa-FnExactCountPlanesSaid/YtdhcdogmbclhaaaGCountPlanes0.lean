/- Merged texts: Yo, Yp. -/
import Derived.Test.YtdhcdogmbclhaaaYl
import Derived.Test.YtdhcdogmbclhaaaYb
import Derived.Test.YtdhcdogmbclhaaaOf
import Derived.Test.YtdhcdogmbclhaaaYn
/- CountPlanes: the model's l6First. -/
namespace Go.Proofs.Ytdhcdogmbclhaaa.planes
open Go.RowKit
open cards reg
set_option linter.unusedVariables false

theorem three_rd' {w : World} {x y z : Cd} : Rd (w.alloc (.cells #[.int .i64 x.a, .int .i64 x.b, .int .i64 x.c, .int .i64 x.d, .int .i64 y.a, .int .i64 y.b, .int .i64 y.c, .int .i64 y.d, .int .i64 z.a, .int .i64 z.b, .int .i64 z.c, .int .i64 z.d] 33)) (some ⟨w.heap.size, 0, none⟩) (flat [x, y, z]) :=
  Rd.newAt rfl rfl
/-- The cells of a card of a row, in a later world. -/
theorem rd_cells {w w1 : World} {b o : Nat} {l : List Cd} (h : Rd w (some ⟨b, o, none⟩) (flat l)) (hb : Below w.heap.size w w1) {k : Nat} {x : Cd} (hx : l[k]? = some x) :
    w1.cell? ⟨b, o + k * 4, none⟩ = some (.int .i64 x.a) ∧ w1.cell? ⟨b, o + k * 4 + 1, none⟩ = some (.int .i64 x.b) ∧ w1.cell? ⟨b, o + k * 4 + 2, none⟩ = some (.int .i64 x.c) ∧ w1.cell? ⟨b, o + k * 4 + 3, none⟩ = some (.int .i64 x.d) := (h.below hb).at_ hx

set_option maxRecDepth 100000 in
set_option maxHeartbeats 16000000 in
theorem l6_first (l : List Cd) (b0 o0 n cp i k m : Nat) (x y z : Cd) (w : World) (hn : l.length = n) (hl : n ≤ 1000) (hr : Rd w (some ⟨b0, o0, none⟩) (flat l)) (hok : l.all Cd.ok = true) (hs : sorted l)
    (h1 : i < k) (h2 : k < m) (h3 : m < n) (hx : l[i]? = some x) (hy : l[k]? = some y) (hz : l[m]? = some z) (ht : triB x y z = true) :
    Calls Try.prog 60 #[.slice (some ⟨b0, o0, none⟩) n cp, .int .i64 i, .int .i64 k, .int .i64 m] w fun e w' => e = .returned (.bool (frB l x y z)) ∧ Below w.heap.size w w' := by
  have HR := Lib.hid hr
  have HX := Lib.hid hx
  have HY := Lib.hid hy
  have HZ := Lib.hid hz
  have HXo := Lib.hid (triB_ok ht).1
  have HYo := Lib.hid (triB_ok ht).2.1
  have HZo := Lib.hid (triB_ok ht).2.2
  have HTa := Lib.hid (tri_all ht)
  have HL9 := tri_len ht
  have HSok := Lib.hid (span_ok [x, y, z])
  have HHas := Lib.hid (fun c w hr hc => l2_has l c (some ⟨b0, o0, none⟩) n cp w hn hl hr hok hc hs)
  have HThere := Lib.hid (fun c hc => there_mem (c := c) hs hok hc)
  have HFr := Lib.hid (frB_iff (l := l) (x := x) (y := y) (z := z))
  have HN := Lib.hid hn
  obtain ⟨fr, hfr⟩ : ∃ fr, frB l x y z = fr := ⟨_, rfl⟩
  rw [hfr] at HFr ⊢
  clear hn hr hok hs hx hy hz ht hfr
  go_enter Try.func60, Try.ntmps60
  go_upto_region 1 with fail
  refine region_WB [(true, 0), (true, 1), (true, 2), (true, 3), (true, 4), (true, 5), (true, 6), (true, 7), (true, 8), (true, 9), (true, 10), (true, 11), (false, 12), (false, 13), (true, 14)] (by kernel_rfl) rfl (by kernel_rfl) ?_
  refine w_pure 13 (v := .slice (some ⟨b0, o0, none⟩) n cp) rfl rfl (by kernel_rfl) (fun w => by kernel_rfl) ?_
  refine w_pure 14 (v := .int .i64 i) rfl rfl (by kernel_rfl) (fun w => by kernel_rfl) ?_
  refine w_pure 15 (v := .pointer (some ⟨b0, o0 + i * 4, none⟩)) rfl rfl (by kernel_rfl) (exec_indexS (n := n) (cp := cp) (by omega) rfl (by kernel_rfl) (by kernel_rfl)) ?_
  refine w_card 16 rfl rfl (by kernel_rfl) _ rfl (by kernel_rfl) x (fun w' h => rd_cells HR.out h HX.out) ?_
  refine w_pure 17 (v := .slice (some ⟨b0, o0, none⟩) n cp) rfl rfl (by kernel_rfl) (fun w => by kernel_rfl) ?_
  refine w_pure 18 (v := .int .i64 k) rfl rfl (by kernel_rfl) (fun w => by kernel_rfl) ?_
  refine w_pure 19 (v := .pointer (some ⟨b0, o0 + k * 4, none⟩)) rfl rfl (by kernel_rfl) (exec_indexS (n := n) (cp := cp) (by omega) rfl (by kernel_rfl) (by kernel_rfl)) ?_
  refine w_card 20 rfl rfl (by kernel_rfl) _ rfl (by kernel_rfl) y (fun w' h => rd_cells HR.out h HY.out) ?_
  refine w_pure 21 (v := .slice (some ⟨b0, o0, none⟩) n cp) rfl rfl (by kernel_rfl) (fun w => by kernel_rfl) ?_
  refine w_pure 22 (v := .int .i64 m) rfl rfl (by kernel_rfl) (fun w => by kernel_rfl) ?_
  refine w_pure 23 (v := .pointer (some ⟨b0, o0 + m * 4, none⟩)) rfl rfl (by kernel_rfl) (exec_indexS (n := n) (cp := cp) (by omega) rfl (by kernel_rfl) (by kernel_rfl)) ?_
  refine w_card 24 rfl rfl (by kernel_rfl) _ rfl (by kernel_rfl) z (fun w' h => rd_cells HR.out h HZ.out) ?_
  refine w_valE 25 rfl rfl (by kernel_rfl) (fun w0 h0 => ⟨.slice (some ⟨w0.heap.size, 0, none⟩) 3 3, _, by kernel_rfl, fun w' => BI w w' ∧ Rd w' (some ⟨w0.heap.size, 0, none⟩) (flat [x, y, z]), fun _ h => h.1, ⟨h0.alloc (Below.size h0) _, three_rd'⟩, ?_⟩)
  refine w_callE 26 rfl rfl (by kernel_rfl) (fun w => by kernel_rfl) (fun w1 h1 => (l6_span [x, y, z] _ 3 3 w1 rfl (by omega) h1.2 HTa.out).mono ?_)
  rintro e w2 ⟨u, rfl, hu, b2⟩
  refine ⟨_, rfl, fun w' => BI w w' ∧ OwnN w' w.heap.size u (span [x, y, z]), fun _ h => h.1, ⟨BI.next h1.1 b2, hu.base (Below.size h1.1)⟩, ?_⟩
  obtain ⟨g9, c9, rfl, hc9, _⟩ := hu.form
  rw [HL9] at hc9 ⊢
  clear h1 b2 hu
  refine w_pure 9 (v := .slice (some ⟨g9, 0, none⟩) 9 c9) rfl rfl (by kernel_rfl) (fun w => by kernel_rfl) ?_
  rintro w3 ⟨hb3, ho3⟩
  simp only [Act.put, List.setIfInBounds_toArray, List.set_cons_zero, List.set_cons_succ]
  have HB := Lib.hid hb3
  have HRp : Hid (Rd w3 (some ⟨g9, 0, none⟩) (flat (span [x, y, z]))) := Lib.hid (Own.rd ho3.own)
  clear hb3 ho3
  obtain ⟨P, hP⟩ : ∃ P, span [x, y, z] = P := ⟨_, rfl⟩
  rw [hP] at HL9 HSok HFr HRp
  have H9 := Lib.hid HL9
  obtain ⟨p0, hp0⟩ : ∃ c, P.getD 0 zero = c := ⟨_, rfl⟩
  obtain ⟨p1, hp1⟩ : ∃ c, P.getD 1 zero = c := ⟨_, rfl⟩
  obtain ⟨p2, hp2⟩ : ∃ c, P.getD 2 zero = c := ⟨_, rfl⟩
  have A0 := Lib.hid (show P[0]? = some p0 by rw [getD_at (by omega), hp0])
  have A1 := Lib.hid (show P[1]? = some p1 by rw [getD_at (by omega), hp1])
  have A2 := Lib.hid (show P[2]? = some p2 by rw [getD_at (by omega), hp2])
  have HPn : Hid (pnB P = if same p2 (third p0 p1) = true then 3 else 2) := Lib.hid (by unfold pnB; rw [hp0, hp1, hp2])
  rw [hp0, hp1] at HFr
  have O0 := Lib.hid (ok_at HSok.out A0.out)
  have O1 := Lib.hid (ok_at HSok.out A1.out)
  have O2 := Lib.hid (ok_at HSok.out A2.out)
  clear hP hp0 hp1 hp2 HL9 HTa
  go_wp2_with fail
  go_loopw [10] (fun qv wr => ∃ q : Nat, q ≤ 9 ∧ qv = .int .i64 q ∧ Hid (∀ (j : Nat) (c : Cd), j < q → P[j]? = some c → c ∈ l) ∧ Hid (Below w.heap.size w wr) ∧ Hid (Rd wr (some ⟨g9, 0, none⟩) (flat P))) (fun qv _ => 9 - (intOf qv).toNat)
  case atStart => exact ⟨0, Nat.zero_le _, rfl, Lib.hid (fun j c h => by omega), HB, HRp⟩
  case round =>
    clear HB HRp
    obtain ⟨q, hq, rfl, HA, HB, HRp⟩ := hrel
    have m0 : (0 : Int) ≤ (q : Int) := by omega
    by_cases hqt : q < 9
    · have m1 : (q : Int) < 9 := by omega
      obtain ⟨b1, o1, c, e1, hb1, hc, c0, c1, c2, c3⟩ := HRp.out.card (k := q) (by rw [H9.out]; exact hqt)
      injection e1 with e1; injection e1 with e1a e1b
      subst e1a; subst e1b
      have HCo := Lib.hid (ok_at HSok.out hc)
      have HCq := Lib.hid hc
      simp only [Nat.zero_add] at c0 c1 c2 c3
      clear hc
      have hh := fun w hr => HHas.out c w hr HCo.out
      cases hth : there l c
      · rw [hth] at hh
        have Hh := Lib.hid hh
        have HF : Hid (fr = false) := Lib.hid (by
          rw [Bool.eq_false_iff]
          intro e
          have h4 := (HFr.out.1 e).1 c (List.mem_of_getElem? HCq.out)
          rw [(HThere.out c HCo.out).2 h4] at hth; cases hth)
        clear hh hth
        go_wp2_with fail
        refine (Hh.out _ (HR.out.below HB.out)).mono ?_
        rintro e w4 ⟨rfl, b4⟩
        have HB4 := Lib.hid (chain0 HB.out b4)
        clear b4
        go_wp2_with fail
        go_ret
        exact ⟨ret_bool HF.out.symm, HB4.out⟩
      · rw [hth] at hh
        have Hh := Lib.hid hh
        have HA2 : Hid (∀ (j : Nat) (c : Cd), j < q + 1 → P[j]? = some c → c ∈ l) := Lib.hid (fun j d hj hd => by
          rcases Nat.lt_or_ge j q with h | h
          · exact HA.out j d h hd
          · obtain rfl : j = q := by omega
            have h5 := HCq.out
            rw [hd] at h5; injection h5 with h5; subst h5
            exact (HThere.out _ HCo.out).1 hth)
        clear hh hth
        go_wp2_with fail
        refine (Hh.out _ (HR.out.below HB.out)).mono ?_
        rintro e w4 ⟨rfl, b4⟩
        have HB4 := Lib.hid (chain0 HB.out b4)
        have HRp4 := Lib.hid (HRp.out.below b4)
        clear b4
        go_wp2_with fail
        go_roundw
        case rel => exact ⟨q + 1, by omega, by go_num, HA2, HB4, HRp4⟩
        case measure => simp [intOf]; omega
    · obtain rfl : q = 9 := by omega
      have HAll : Hid (∀ p, p ∈ P → p ∈ l) := Lib.hid (fun p hp => by
        obtain ⟨j, hj⟩ := List.getElem?_of_mem hp
        have := (List.getElem?_eq_some_iff.1 hj).1
        exact HA.out j p (by have := H9.out; omega) hj)
      clear HA
      go_upto_region 7 with fail
      refine region_vb 33 #[.int .i64 0, .int .i64 0, .int .i64 0, .int .i64 0] [(true, 0), (true, 1), (true, 2), (true, 3), (true, 4), (true, 5), (false, 6)] 7 8 11 [] _ _ 46 (by kernel_rfl) (fun w => by kernel_rfl) (by kernel_rfl) rfl rfl (by kernel_rfl) rfl rfl rfl rfl rfl rfl rfl rfl (by decide) (of_decide_eq_true rfl) ?_
      refine chain_pure 40 (v := .slice (some ⟨g9, 0, none⟩) 9 c9) rfl rfl rfl (fun w => by kernel_rfl) ?_
      refine chain_pure 41 (v := .pointer (some ⟨g9, 0 + 0 * 4, none⟩)) rfl rfl rfl (exec_indexS (k := 0) (n := 9) (cp := c9) (by omega) rfl (by kernel_rfl) (by kernel_rfl)) ?_
      refine chain_card 42 rfl rfl rfl _ rfl (by kernel_rfl) p0 (fun w' h => rd_cells HRp.out h A0.out) ?_
      refine chain_pure 43 (v := .slice (some ⟨g9, 0, none⟩) 9 c9) rfl rfl rfl (fun w => by kernel_rfl) ?_
      refine chain_pure 44 (v := .pointer (some ⟨g9, 0 + 1 * 4, none⟩)) rfl rfl rfl (exec_indexS (k := 1) (n := 9) (cp := c9) (by omega) rfl (by kernel_rfl) (by kernel_rfl)) ?_
      refine chain_card 45 rfl rfl rfl _ rfl (by kernel_rfl) p1 (fun w' h => rd_cells HRp.out h A1.out) ?_
      refine chain_call 46 rfl rfl rfl (fun w => by kernel_rfl) (fun w0 h0 => l2_third p0 p1 w0 O0.out O1.out) ?_
      intro wz g11 hI hg hb
      refine ⟨by kernel_rfl, #[.int .i64 (third p0 p1).a, .int .i64 (third p0 p1).b, .int .i64 (third p0 p1).c, .int .i64 (third p0 p1).d], by kernel_rfl, rfl, by simp [Value.oneCell'], ?_⟩
      intro w5 R1 b5
      refine ⟨_, rfl, ?_⟩
      simp only [Act.put, List.setIfInBounds_toArray, List.set_cons_zero, List.set_cons_succ]
      have K11 : Hid (Box w5 g11 (third p0 p1)) := Lib.hid R1.out
      have HB := Lib.hid (chain0 HB.out b5)
      have HRp := Lib.hid (HRp.out.below b5)
      clear b5 hI hg hb R1
      unfold ptr
      go_upto_region 9 with fail
      have Ht := Lib.hid (third_ok p0 p1)
      cases h23 : same p2 (third p0 p1)
      · have HE9 := Lib.hid h23
        have HPn2 : Hid (pnB P = 2) := Lib.hid (by rw [HPn.out, h23]; rfl)
        rw [HPn2.out] at HFr
        clear h23
        refine region_BI [(true, 0), (true, 1), (true, 2), (true, 3), (true, 4), (true, 5)] (by kernel_rfl) rfl (by kernel_rfl) ?_
        refine chain_pure 47 (v := .slice (some ⟨g9, 0, none⟩) 9 c9) rfl rfl rfl (fun w => by kernel_rfl) ?_
        refine chain_pure 48 (v := .int .i64 ((2 : Nat) : Int)) rfl rfl rfl (fun w => by kernel_rfl) ?_
        refine chain_pure 49 (v := .pointer (some ⟨g9, 0 + 2 * 4, none⟩)) rfl rfl rfl (exec_indexS (k := 2) (n := 9) (cp := c9) (by omega) rfl (by kernel_rfl) (by kernel_rfl)) ?_
        refine chain_card 50 rfl rfl rfl _ rfl (by kernel_rfl) p2 (fun w' h => rd_cells HRp.out h A2.out) ?_
        refine chain_card 51 (g := g11) (off := 0) rfl rfl rfl _ rfl (by kernel_rfl) (third p0 p1) (fun w' h => (K11.out.below h).cell) ?_
        refine chain_pure 52 (v := .bool false) rfl rfl rfl (fun w => by rw [exec_eqlC O2.out Ht.out rfl (by kernel_rfl) (by kernel_rfl) w, HE9.out]) ?_
        intro w6 b6
        simp only [Act.put, List.setIfInBounds_toArray, List.set_cons_zero, List.set_cons_succ]
        have HB := Lib.hid (chain0 HB.out b6)
        have HRp := Lib.hid (HRp.out.below b6)
        clear b6 K11
        obtain ⟨pn, hpn⟩ : ∃ c, P.getD 2 zero = c := ⟨_, rfl⟩
        have An := Lib.hid (show P[2]? = some pn by rw [getD_at (by rw [H9.out]; omega), hpn])
        rw [hpn] at HFr
        clear hpn
        have On := Lib.hid (ok_at HSok.out An.out)
        go_upto_region 11 with fail
        have HRl := Lib.hid (HR.out.below HB.out)
        cases e0 : same p0 x
        · have HF : Hid (fr = false) := Lib.hid (by rw [Bool.eq_false_iff]; intro e; rw [same_iff.2 (HFr.out.1 e).2.1] at e0; cases e0)
          have E0 := Lib.hid e0
          clear e0
          refine region_WB [(true, 0), (true, 1), (true, 2), (true, 3), (true, 4), (true, 5), (true, 6), (true, 7), (true, 8), (true, 9), (true, 10), (true, 11), (true, 12), (true, 13), (true, 14), (true, 15), (true, 16), (true, 17), (true, 18), (true, 19), (true, 20), (true, 21), (true, 22), (true, 23), (true, 24), (true, 25), (true, 26), (true, 27), (true, 28), (true, 29)] (by kernel_rfl) rfl (by kernel_rfl) ?_
          refine w_pure 55 (v := .slice (some ⟨g9, 0, none⟩) 9 c9) rfl rfl (by kernel_rfl) (fun w => by kernel_rfl) ?_
          refine w_pure 56 (v := .pointer (some ⟨g9, 0 + 0 * 4, none⟩)) rfl rfl (by kernel_rfl) (exec_indexS (k := 0) (n := 9) (cp := c9) (by omega) rfl (by kernel_rfl) (by kernel_rfl)) ?_
          refine w_card 57 rfl rfl (by kernel_rfl) _ rfl (by kernel_rfl) p0 (fun w' h => rd_cells HRp.out h A0.out) ?_
          refine w_pure 58 (v := .slice (some ⟨b0, o0, none⟩) n cp) rfl rfl (by kernel_rfl) (fun w => by kernel_rfl) ?_
          refine w_pure 59 (v := .int .i64 i) rfl rfl (by kernel_rfl) (fun w => by kernel_rfl) ?_
          refine w_pure 60 (v := .pointer (some ⟨b0, o0 + i * 4, none⟩)) rfl rfl (by kernel_rfl) (exec_indexS (n := n) (cp := cp) (by omega) rfl (by kernel_rfl) (by kernel_rfl)) ?_
          refine w_card 61 rfl rfl (by kernel_rfl) _ rfl (by kernel_rfl) x (fun w' h => rd_cells HRl.out h HX.out) ?_
          refine w_pure 62 (v := .bool false) rfl rfl (by kernel_rfl) (fun w => by rw [exec_eqlC O0.out HXo.out rfl (by kernel_rfl) (by kernel_rfl) w, E0.out]) ?_
          refine w_pure 63 (v := .bool false) rfl rfl (by kernel_rfl) (fun w => by kernel_rfl) ?_
          refine w_skip 64 rfl rfl (by kernel_rfl) ?_
          refine w_skip 65 rfl rfl (by kernel_rfl) ?_
          refine w_skip 66 rfl rfl (by kernel_rfl) ?_
          refine w_skip 67 rfl rfl (by kernel_rfl) ?_
          refine w_skip 68 rfl rfl (by kernel_rfl) ?_
          refine w_skip 69 rfl rfl (by kernel_rfl) ?_
          refine w_skip 70 rfl rfl (by kernel_rfl) ?_
          refine w_skip 71 rfl rfl (by kernel_rfl) ?_
          refine w_pure 72 (v := .bool false) rfl rfl (by kernel_rfl) (fun w => by kernel_rfl) ?_
          refine w_pure 73 (v := .bool false) rfl rfl (by kernel_rfl) (fun w => by kernel_rfl) ?_
          refine w_skip 74 rfl rfl (by kernel_rfl) ?_
          refine w_skip 75 rfl rfl (by kernel_rfl) ?_
          refine w_skip 76 rfl rfl (by kernel_rfl) ?_
          refine w_skip 77 rfl rfl (by kernel_rfl) ?_
          refine w_skip 78 rfl rfl (by kernel_rfl) ?_
          refine w_skip 79 rfl rfl (by kernel_rfl) ?_
          refine w_skip 80 rfl rfl (by kernel_rfl) ?_
          refine w_skip 81 rfl rfl (by kernel_rfl) ?_
          refine w_skip 82 rfl rfl (by kernel_rfl) ?_
          refine w_pure 83 (v := .bool false) rfl rfl (by kernel_rfl) (fun w => by kernel_rfl) ?_
          refine w_pure 8 (v := .bool false) rfl rfl (by kernel_rfl) (fun w => by kernel_rfl) ?_
          intro w7 b7
          simp only [Act.put, List.setIfInBounds_toArray, List.set_cons_zero, List.set_cons_succ]
          have HB7 := Lib.hid (chain0 HB.out b7)
          clear b7
          go_wp2_with fail
          go_ret
          exact ⟨ret_bool (by rw [HF.out]), HB7.out⟩
        · have E0 := Lib.hid e0
          cases e1 : same p1 y
          · have HF : Hid (fr = false) := Lib.hid (by rw [Bool.eq_false_iff]; intro e; rw [same_iff.2 (HFr.out.1 e).2.2.1] at e1; cases e1)
            have E1 := Lib.hid e1
            clear e0 e1
            refine region_WB [(true, 0), (true, 1), (true, 2), (true, 3), (true, 4), (true, 5), (true, 6), (true, 7), (true, 8), (true, 9), (true, 10), (true, 11), (true, 12), (true, 13), (true, 14), (true, 15), (true, 16), (true, 17), (true, 18), (true, 19), (true, 20), (true, 21), (true, 22), (true, 23), (true, 24), (true, 25), (true, 26), (true, 27), (true, 28), (true, 29)] (by kernel_rfl) rfl (by kernel_rfl) ?_
            refine w_pure 55 (v := .slice (some ⟨g9, 0, none⟩) 9 c9) rfl rfl (by kernel_rfl) (fun w => by kernel_rfl) ?_
            refine w_pure 56 (v := .pointer (some ⟨g9, 0 + 0 * 4, none⟩)) rfl rfl (by kernel_rfl) (exec_indexS (k := 0) (n := 9) (cp := c9) (by omega) rfl (by kernel_rfl) (by kernel_rfl)) ?_
            refine w_card 57 rfl rfl (by kernel_rfl) _ rfl (by kernel_rfl) p0 (fun w' h => rd_cells HRp.out h A0.out) ?_
            refine w_pure 58 (v := .slice (some ⟨b0, o0, none⟩) n cp) rfl rfl (by kernel_rfl) (fun w => by kernel_rfl) ?_
            refine w_pure 59 (v := .int .i64 i) rfl rfl (by kernel_rfl) (fun w => by kernel_rfl) ?_
            refine w_pure 60 (v := .pointer (some ⟨b0, o0 + i * 4, none⟩)) rfl rfl (by kernel_rfl) (exec_indexS (n := n) (cp := cp) (by omega) rfl (by kernel_rfl) (by kernel_rfl)) ?_
            refine w_card 61 rfl rfl (by kernel_rfl) _ rfl (by kernel_rfl) x (fun w' h => rd_cells HRl.out h HX.out) ?_
            refine w_pure 62 (v := .bool true) rfl rfl (by kernel_rfl) (fun w => by rw [exec_eqlC O0.out HXo.out rfl (by kernel_rfl) (by kernel_rfl) w, E0.out]) ?_
            refine w_pure 63 (v := .bool true) rfl rfl (by kernel_rfl) (fun w => by kernel_rfl) ?_
            refine w_pure 64 (v := .slice (some ⟨g9, 0, none⟩) 9 c9) rfl rfl (by kernel_rfl) (fun w => by kernel_rfl) ?_
            refine w_pure 65 (v := .pointer (some ⟨g9, 0 + 1 * 4, none⟩)) rfl rfl (by kernel_rfl) (exec_indexS (k := 1) (n := 9) (cp := c9) (by omega) rfl (by kernel_rfl) (by kernel_rfl)) ?_
            refine w_card 66 rfl rfl (by kernel_rfl) _ rfl (by kernel_rfl) p1 (fun w' h => rd_cells HRp.out h A1.out) ?_
            refine w_pure 67 (v := .slice (some ⟨b0, o0, none⟩) n cp) rfl rfl (by kernel_rfl) (fun w => by kernel_rfl) ?_
            refine w_pure 68 (v := .int .i64 k) rfl rfl (by kernel_rfl) (fun w => by kernel_rfl) ?_
            refine w_pure 69 (v := .pointer (some ⟨b0, o0 + k * 4, none⟩)) rfl rfl (by kernel_rfl) (exec_indexS (n := n) (cp := cp) (by omega) rfl (by kernel_rfl) (by kernel_rfl)) ?_
            refine w_card 70 rfl rfl (by kernel_rfl) _ rfl (by kernel_rfl) y (fun w' h => rd_cells HRl.out h HY.out) ?_
            refine w_pure 71 (v := .bool false) rfl rfl (by kernel_rfl) (fun w => by rw [exec_eqlC O1.out HYo.out rfl (by kernel_rfl) (by kernel_rfl) w, E1.out]) ?_
            refine w_pure 72 (v := .bool false) rfl rfl (by kernel_rfl) (fun w => by kernel_rfl) ?_
            refine w_pure 73 (v := .bool false) rfl rfl (by kernel_rfl) (fun w => by kernel_rfl) ?_
            refine w_skip 74 rfl rfl (by kernel_rfl) ?_
            refine w_skip 75 rfl rfl (by kernel_rfl) ?_
            refine w_skip 76 rfl rfl (by kernel_rfl) ?_
            refine w_skip 77 rfl rfl (by kernel_rfl) ?_
            refine w_skip 78 rfl rfl (by kernel_rfl) ?_
            refine w_skip 79 rfl rfl (by kernel_rfl) ?_
            refine w_skip 80 rfl rfl (by kernel_rfl) ?_
            refine w_skip 81 rfl rfl (by kernel_rfl) ?_
            refine w_skip 82 rfl rfl (by kernel_rfl) ?_
            refine w_pure 83 (v := .bool false) rfl rfl (by kernel_rfl) (fun w => by kernel_rfl) ?_
            refine w_pure 8 (v := .bool false) rfl rfl (by kernel_rfl) (fun w => by kernel_rfl) ?_
            intro w7 b7
            simp only [Act.put, List.setIfInBounds_toArray, List.set_cons_zero, List.set_cons_succ]
            have HB7 := Lib.hid (chain0 HB.out b7)
            clear b7
            go_wp2_with fail
            go_ret
            exact ⟨ret_bool (by rw [HF.out]), HB7.out⟩
          · have HF : Hid (fr = same pn z) := Lib.hid (by rw [Bool.eq_iff_iff, HFr.out, same_iff]; exact ⟨fun h => h.2.2.2, fun h => ⟨HAll.out, same_iff.1 e0, same_iff.1 e1, h⟩⟩)
            have E1 := Lib.hid e1
            clear e0 e1
            refine region_WB [(true, 0), (true, 1), (true, 2), (true, 3), (true, 4), (true, 5), (true, 6), (true, 7), (true, 8), (true, 9), (true, 10), (true, 11), (true, 12), (true, 13), (true, 14), (true, 15), (true, 16), (true, 17), (true, 18), (true, 19), (true, 20), (true, 21), (true, 22), (true, 23), (true, 24), (true, 25), (true, 26), (true, 27), (true, 28), (true, 29)] (by kernel_rfl) rfl (by kernel_rfl) ?_
            refine w_pure 55 (v := .slice (some ⟨g9, 0, none⟩) 9 c9) rfl rfl (by kernel_rfl) (fun w => by kernel_rfl) ?_
            refine w_pure 56 (v := .pointer (some ⟨g9, 0 + 0 * 4, none⟩)) rfl rfl (by kernel_rfl) (exec_indexS (k := 0) (n := 9) (cp := c9) (by omega) rfl (by kernel_rfl) (by kernel_rfl)) ?_
            refine w_card 57 rfl rfl (by kernel_rfl) _ rfl (by kernel_rfl) p0 (fun w' h => rd_cells HRp.out h A0.out) ?_
            refine w_pure 58 (v := .slice (some ⟨b0, o0, none⟩) n cp) rfl rfl (by kernel_rfl) (fun w => by kernel_rfl) ?_
            refine w_pure 59 (v := .int .i64 i) rfl rfl (by kernel_rfl) (fun w => by kernel_rfl) ?_
            refine w_pure 60 (v := .pointer (some ⟨b0, o0 + i * 4, none⟩)) rfl rfl (by kernel_rfl) (exec_indexS (n := n) (cp := cp) (by omega) rfl (by kernel_rfl) (by kernel_rfl)) ?_
            refine w_card 61 rfl rfl (by kernel_rfl) _ rfl (by kernel_rfl) x (fun w' h => rd_cells HRl.out h HX.out) ?_
            refine w_pure 62 (v := .bool true) rfl rfl (by kernel_rfl) (fun w => by rw [exec_eqlC O0.out HXo.out rfl (by kernel_rfl) (by kernel_rfl) w, E0.out]) ?_
            refine w_pure 63 (v := .bool true) rfl rfl (by kernel_rfl) (fun w => by kernel_rfl) ?_
            refine w_pure 64 (v := .slice (some ⟨g9, 0, none⟩) 9 c9) rfl rfl (by kernel_rfl) (fun w => by kernel_rfl) ?_
            refine w_pure 65 (v := .pointer (some ⟨g9, 0 + 1 * 4, none⟩)) rfl rfl (by kernel_rfl) (exec_indexS (k := 1) (n := 9) (cp := c9) (by omega) rfl (by kernel_rfl) (by kernel_rfl)) ?_
            refine w_card 66 rfl rfl (by kernel_rfl) _ rfl (by kernel_rfl) p1 (fun w' h => rd_cells HRp.out h A1.out) ?_
            refine w_pure 67 (v := .slice (some ⟨b0, o0, none⟩) n cp) rfl rfl (by kernel_rfl) (fun w => by kernel_rfl) ?_
            refine w_pure 68 (v := .int .i64 k) rfl rfl (by kernel_rfl) (fun w => by kernel_rfl) ?_
            refine w_pure 69 (v := .pointer (some ⟨b0, o0 + k * 4, none⟩)) rfl rfl (by kernel_rfl) (exec_indexS (n := n) (cp := cp) (by omega) rfl (by kernel_rfl) (by kernel_rfl)) ?_
            refine w_card 70 rfl rfl (by kernel_rfl) _ rfl (by kernel_rfl) y (fun w' h => rd_cells HRl.out h HY.out) ?_
            refine w_pure 71 (v := .bool true) rfl rfl (by kernel_rfl) (fun w => by rw [exec_eqlC O1.out HYo.out rfl (by kernel_rfl) (by kernel_rfl) w, E1.out]) ?_
            refine w_pure 72 (v := .bool true) rfl rfl (by kernel_rfl) (fun w => by kernel_rfl) ?_
            refine w_pure 73 (v := .bool true) rfl rfl (by kernel_rfl) (fun w => by kernel_rfl) ?_
            refine w_pure 74 (v := .slice (some ⟨g9, 0, none⟩) 9 c9) rfl rfl (by kernel_rfl) (fun w => by kernel_rfl) ?_
            refine w_pure 75 (v := .int .i64 ((2 : Nat) : Int)) rfl rfl (by kernel_rfl) (fun w => by kernel_rfl) ?_
            refine w_pure 76 (v := .pointer (some ⟨g9, 0 + 2 * 4, none⟩)) rfl rfl (by kernel_rfl) (exec_indexS (k := 2) (n := 9) (cp := c9) (by omega) rfl (by kernel_rfl) (by kernel_rfl)) ?_
            refine w_card 77 rfl rfl (by kernel_rfl) _ rfl (by kernel_rfl) pn (fun w' h => rd_cells HRp.out h An.out) ?_
            refine w_pure 78 (v := .slice (some ⟨b0, o0, none⟩) n cp) rfl rfl (by kernel_rfl) (fun w => by kernel_rfl) ?_
            refine w_pure 79 (v := .int .i64 m) rfl rfl (by kernel_rfl) (fun w => by kernel_rfl) ?_
            refine w_pure 80 (v := .pointer (some ⟨b0, o0 + m * 4, none⟩)) rfl rfl (by kernel_rfl) (exec_indexS (n := n) (cp := cp) (by omega) rfl (by kernel_rfl) (by kernel_rfl)) ?_
            refine w_card 81 rfl rfl (by kernel_rfl) _ rfl (by kernel_rfl) z (fun w' h => rd_cells HRl.out h HZ.out) ?_
            refine w_pure 82 (v := .bool (same pn z)) rfl rfl (by kernel_rfl) (fun w => exec_eqlC On.out HZo.out rfl (by kernel_rfl) (by kernel_rfl) w) ?_
            refine w_pure 83 (v := .bool (same pn z)) rfl rfl (by kernel_rfl) (fun w => by kernel_rfl) ?_
            refine w_pure 8 (v := .bool (same pn z)) rfl rfl (by kernel_rfl) (fun w => by kernel_rfl) ?_
            intro w7 b7
            simp only [Act.put, List.setIfInBounds_toArray, List.set_cons_zero, List.set_cons_succ]
            have HB7 := Lib.hid (chain0 HB.out b7)
            clear b7
            go_wp2_with fail
            go_ret
            exact ⟨ret_bool (by rw [HF.out]), HB7.out⟩
      · have HE9 := Lib.hid h23
        have HPn2 : Hid (pnB P = 3) := Lib.hid (by rw [HPn.out, h23]; rfl)
        rw [HPn2.out] at HFr
        clear h23
        refine region_BI [(true, 0), (true, 1), (true, 2), (true, 3), (true, 4), (true, 5)] (by kernel_rfl) rfl (by kernel_rfl) ?_
        refine chain_pure 47 (v := .slice (some ⟨g9, 0, none⟩) 9 c9) rfl rfl rfl (fun w => by kernel_rfl) ?_
        refine chain_pure 48 (v := .int .i64 ((2 : Nat) : Int)) rfl rfl rfl (fun w => by kernel_rfl) ?_
        refine chain_pure 49 (v := .pointer (some ⟨g9, 0 + 2 * 4, none⟩)) rfl rfl rfl (exec_indexS (k := 2) (n := 9) (cp := c9) (by omega) rfl (by kernel_rfl) (by kernel_rfl)) ?_
        refine chain_card 50 rfl rfl rfl _ rfl (by kernel_rfl) p2 (fun w' h => rd_cells HRp.out h A2.out) ?_
        refine chain_card 51 (g := g11) (off := 0) rfl rfl rfl _ rfl (by kernel_rfl) (third p0 p1) (fun w' h => (K11.out.below h).cell) ?_
        refine chain_pure 52 (v := .bool true) rfl rfl rfl (fun w => by rw [exec_eqlC O2.out Ht.out rfl (by kernel_rfl) (by kernel_rfl) w, HE9.out]) ?_
        intro w6 b6
        simp only [Act.put, List.setIfInBounds_toArray, List.set_cons_zero, List.set_cons_succ]
        have HB := Lib.hid (chain0 HB.out b6)
        have HRp := Lib.hid (HRp.out.below b6)
        clear b6 K11
        obtain ⟨pn, hpn⟩ : ∃ c, P.getD 3 zero = c := ⟨_, rfl⟩
        have An := Lib.hid (show P[3]? = some pn by rw [getD_at (by rw [H9.out]; omega), hpn])
        rw [hpn] at HFr
        clear hpn
        have On := Lib.hid (ok_at HSok.out An.out)
        go_upto_region 11 with fail
        have HRl := Lib.hid (HR.out.below HB.out)
        cases e0 : same p0 x
        · have HF : Hid (fr = false) := Lib.hid (by rw [Bool.eq_false_iff]; intro e; rw [same_iff.2 (HFr.out.1 e).2.1] at e0; cases e0)
          have E0 := Lib.hid e0
          clear e0
          refine region_WB [(true, 0), (true, 1), (true, 2), (true, 3), (true, 4), (true, 5), (true, 6), (true, 7), (true, 8), (true, 9), (true, 10), (true, 11), (true, 12), (true, 13), (true, 14), (true, 15), (true, 16), (true, 17), (true, 18), (true, 19), (true, 20), (true, 21), (true, 22), (true, 23), (true, 24), (true, 25), (true, 26), (true, 27), (true, 28), (true, 29)] (by kernel_rfl) rfl (by kernel_rfl) ?_
          refine w_pure 55 (v := .slice (some ⟨g9, 0, none⟩) 9 c9) rfl rfl (by kernel_rfl) (fun w => by kernel_rfl) ?_
          refine w_pure 56 (v := .pointer (some ⟨g9, 0 + 0 * 4, none⟩)) rfl rfl (by kernel_rfl) (exec_indexS (k := 0) (n := 9) (cp := c9) (by omega) rfl (by kernel_rfl) (by kernel_rfl)) ?_
          refine w_card 57 rfl rfl (by kernel_rfl) _ rfl (by kernel_rfl) p0 (fun w' h => rd_cells HRp.out h A0.out) ?_
          refine w_pure 58 (v := .slice (some ⟨b0, o0, none⟩) n cp) rfl rfl (by kernel_rfl) (fun w => by kernel_rfl) ?_
          refine w_pure 59 (v := .int .i64 i) rfl rfl (by kernel_rfl) (fun w => by kernel_rfl) ?_
          refine w_pure 60 (v := .pointer (some ⟨b0, o0 + i * 4, none⟩)) rfl rfl (by kernel_rfl) (exec_indexS (n := n) (cp := cp) (by omega) rfl (by kernel_rfl) (by kernel_rfl)) ?_
          refine w_card 61 rfl rfl (by kernel_rfl) _ rfl (by kernel_rfl) x (fun w' h => rd_cells HRl.out h HX.out) ?_
          refine w_pure 62 (v := .bool false) rfl rfl (by kernel_rfl) (fun w => by rw [exec_eqlC O0.out HXo.out rfl (by kernel_rfl) (by kernel_rfl) w, E0.out]) ?_
          refine w_pure 63 (v := .bool false) rfl rfl (by kernel_rfl) (fun w => by kernel_rfl) ?_
          refine w_skip 64 rfl rfl (by kernel_rfl) ?_
          refine w_skip 65 rfl rfl (by kernel_rfl) ?_
          refine w_skip 66 rfl rfl (by kernel_rfl) ?_
          refine w_skip 67 rfl rfl (by kernel_rfl) ?_
          refine w_skip 68 rfl rfl (by kernel_rfl) ?_
          refine w_skip 69 rfl rfl (by kernel_rfl) ?_
          refine w_skip 70 rfl rfl (by kernel_rfl) ?_
          refine w_skip 71 rfl rfl (by kernel_rfl) ?_
          refine w_pure 72 (v := .bool false) rfl rfl (by kernel_rfl) (fun w => by kernel_rfl) ?_
          refine w_pure 73 (v := .bool false) rfl rfl (by kernel_rfl) (fun w => by kernel_rfl) ?_
          refine w_skip 74 rfl rfl (by kernel_rfl) ?_
          refine w_skip 75 rfl rfl (by kernel_rfl) ?_
          refine w_skip 76 rfl rfl (by kernel_rfl) ?_
          refine w_skip 77 rfl rfl (by kernel_rfl) ?_
          refine w_skip 78 rfl rfl (by kernel_rfl) ?_
          refine w_skip 79 rfl rfl (by kernel_rfl) ?_
          refine w_skip 80 rfl rfl (by kernel_rfl) ?_
          refine w_skip 81 rfl rfl (by kernel_rfl) ?_
          refine w_skip 82 rfl rfl (by kernel_rfl) ?_
          refine w_pure 83 (v := .bool false) rfl rfl (by kernel_rfl) (fun w => by kernel_rfl) ?_
          refine w_pure 8 (v := .bool false) rfl rfl (by kernel_rfl) (fun w => by kernel_rfl) ?_
          intro w7 b7
          simp only [Act.put, List.setIfInBounds_toArray, List.set_cons_zero, List.set_cons_succ]
          have HB7 := Lib.hid (chain0 HB.out b7)
          clear b7
          go_wp2_with fail
          go_ret
          exact ⟨ret_bool (by rw [HF.out]), HB7.out⟩
        · have E0 := Lib.hid e0
          cases e1 : same p1 y
          · have HF : Hid (fr = false) := Lib.hid (by rw [Bool.eq_false_iff]; intro e; rw [same_iff.2 (HFr.out.1 e).2.2.1] at e1; cases e1)
            have E1 := Lib.hid e1
            clear e0 e1
            refine region_WB [(true, 0), (true, 1), (true, 2), (true, 3), (true, 4), (true, 5), (true, 6), (true, 7), (true, 8), (true, 9), (true, 10), (true, 11), (true, 12), (true, 13), (true, 14), (true, 15), (true, 16), (true, 17), (true, 18), (true, 19), (true, 20), (true, 21), (true, 22), (true, 23), (true, 24), (true, 25), (true, 26), (true, 27), (true, 28), (true, 29)] (by kernel_rfl) rfl (by kernel_rfl) ?_
            refine w_pure 55 (v := .slice (some ⟨g9, 0, none⟩) 9 c9) rfl rfl (by kernel_rfl) (fun w => by kernel_rfl) ?_
            refine w_pure 56 (v := .pointer (some ⟨g9, 0 + 0 * 4, none⟩)) rfl rfl (by kernel_rfl) (exec_indexS (k := 0) (n := 9) (cp := c9) (by omega) rfl (by kernel_rfl) (by kernel_rfl)) ?_
            refine w_card 57 rfl rfl (by kernel_rfl) _ rfl (by kernel_rfl) p0 (fun w' h => rd_cells HRp.out h A0.out) ?_
            refine w_pure 58 (v := .slice (some ⟨b0, o0, none⟩) n cp) rfl rfl (by kernel_rfl) (fun w => by kernel_rfl) ?_
            refine w_pure 59 (v := .int .i64 i) rfl rfl (by kernel_rfl) (fun w => by kernel_rfl) ?_
            refine w_pure 60 (v := .pointer (some ⟨b0, o0 + i * 4, none⟩)) rfl rfl (by kernel_rfl) (exec_indexS (n := n) (cp := cp) (by omega) rfl (by kernel_rfl) (by kernel_rfl)) ?_
            refine w_card 61 rfl rfl (by kernel_rfl) _ rfl (by kernel_rfl) x (fun w' h => rd_cells HRl.out h HX.out) ?_
            refine w_pure 62 (v := .bool true) rfl rfl (by kernel_rfl) (fun w => by rw [exec_eqlC O0.out HXo.out rfl (by kernel_rfl) (by kernel_rfl) w, E0.out]) ?_
            refine w_pure 63 (v := .bool true) rfl rfl (by kernel_rfl) (fun w => by kernel_rfl) ?_
            refine w_pure 64 (v := .slice (some ⟨g9, 0, none⟩) 9 c9) rfl rfl (by kernel_rfl) (fun w => by kernel_rfl) ?_
            refine w_pure 65 (v := .pointer (some ⟨g9, 0 + 1 * 4, none⟩)) rfl rfl (by kernel_rfl) (exec_indexS (k := 1) (n := 9) (cp := c9) (by omega) rfl (by kernel_rfl) (by kernel_rfl)) ?_
            refine w_card 66 rfl rfl (by kernel_rfl) _ rfl (by kernel_rfl) p1 (fun w' h => rd_cells HRp.out h A1.out) ?_
            refine w_pure 67 (v := .slice (some ⟨b0, o0, none⟩) n cp) rfl rfl (by kernel_rfl) (fun w => by kernel_rfl) ?_
            refine w_pure 68 (v := .int .i64 k) rfl rfl (by kernel_rfl) (fun w => by kernel_rfl) ?_
            refine w_pure 69 (v := .pointer (some ⟨b0, o0 + k * 4, none⟩)) rfl rfl (by kernel_rfl) (exec_indexS (n := n) (cp := cp) (by omega) rfl (by kernel_rfl) (by kernel_rfl)) ?_
            refine w_card 70 rfl rfl (by kernel_rfl) _ rfl (by kernel_rfl) y (fun w' h => rd_cells HRl.out h HY.out) ?_
            refine w_pure 71 (v := .bool false) rfl rfl (by kernel_rfl) (fun w => by rw [exec_eqlC O1.out HYo.out rfl (by kernel_rfl) (by kernel_rfl) w, E1.out]) ?_
            refine w_pure 72 (v := .bool false) rfl rfl (by kernel_rfl) (fun w => by kernel_rfl) ?_
            refine w_pure 73 (v := .bool false) rfl rfl (by kernel_rfl) (fun w => by kernel_rfl) ?_
            refine w_skip 74 rfl rfl (by kernel_rfl) ?_
            refine w_skip 75 rfl rfl (by kernel_rfl) ?_
            refine w_skip 76 rfl rfl (by kernel_rfl) ?_
            refine w_skip 77 rfl rfl (by kernel_rfl) ?_
            refine w_skip 78 rfl rfl (by kernel_rfl) ?_
            refine w_skip 79 rfl rfl (by kernel_rfl) ?_
            refine w_skip 80 rfl rfl (by kernel_rfl) ?_
            refine w_skip 81 rfl rfl (by kernel_rfl) ?_
            refine w_skip 82 rfl rfl (by kernel_rfl) ?_
            refine w_pure 83 (v := .bool false) rfl rfl (by kernel_rfl) (fun w => by kernel_rfl) ?_
            refine w_pure 8 (v := .bool false) rfl rfl (by kernel_rfl) (fun w => by kernel_rfl) ?_
            intro w7 b7
            simp only [Act.put, List.setIfInBounds_toArray, List.set_cons_zero, List.set_cons_succ]
            have HB7 := Lib.hid (chain0 HB.out b7)
            clear b7
            go_wp2_with fail
            go_ret
            exact ⟨ret_bool (by rw [HF.out]), HB7.out⟩
          · have HF : Hid (fr = same pn z) := Lib.hid (by rw [Bool.eq_iff_iff, HFr.out, same_iff]; exact ⟨fun h => h.2.2.2, fun h => ⟨HAll.out, same_iff.1 e0, same_iff.1 e1, h⟩⟩)
            have E1 := Lib.hid e1
            clear e0 e1
            refine region_WB [(true, 0), (true, 1), (true, 2), (true, 3), (true, 4), (true, 5), (true, 6), (true, 7), (true, 8), (true, 9), (true, 10), (true, 11), (true, 12), (true, 13), (true, 14), (true, 15), (true, 16), (true, 17), (true, 18), (true, 19), (true, 20), (true, 21), (true, 22), (true, 23), (true, 24), (true, 25), (true, 26), (true, 27), (true, 28), (true, 29)] (by kernel_rfl) rfl (by kernel_rfl) ?_
            refine w_pure 55 (v := .slice (some ⟨g9, 0, none⟩) 9 c9) rfl rfl (by kernel_rfl) (fun w => by kernel_rfl) ?_
            refine w_pure 56 (v := .pointer (some ⟨g9, 0 + 0 * 4, none⟩)) rfl rfl (by kernel_rfl) (exec_indexS (k := 0) (n := 9) (cp := c9) (by omega) rfl (by kernel_rfl) (by kernel_rfl)) ?_
            refine w_card 57 rfl rfl (by kernel_rfl) _ rfl (by kernel_rfl) p0 (fun w' h => rd_cells HRp.out h A0.out) ?_
            refine w_pure 58 (v := .slice (some ⟨b0, o0, none⟩) n cp) rfl rfl (by kernel_rfl) (fun w => by kernel_rfl) ?_
            refine w_pure 59 (v := .int .i64 i) rfl rfl (by kernel_rfl) (fun w => by kernel_rfl) ?_
            refine w_pure 60 (v := .pointer (some ⟨b0, o0 + i * 4, none⟩)) rfl rfl (by kernel_rfl) (exec_indexS (n := n) (cp := cp) (by omega) rfl (by kernel_rfl) (by kernel_rfl)) ?_
            refine w_card 61 rfl rfl (by kernel_rfl) _ rfl (by kernel_rfl) x (fun w' h => rd_cells HRl.out h HX.out) ?_
            refine w_pure 62 (v := .bool true) rfl rfl (by kernel_rfl) (fun w => by rw [exec_eqlC O0.out HXo.out rfl (by kernel_rfl) (by kernel_rfl) w, E0.out]) ?_
            refine w_pure 63 (v := .bool true) rfl rfl (by kernel_rfl) (fun w => by kernel_rfl) ?_
            refine w_pure 64 (v := .slice (some ⟨g9, 0, none⟩) 9 c9) rfl rfl (by kernel_rfl) (fun w => by kernel_rfl) ?_
            refine w_pure 65 (v := .pointer (some ⟨g9, 0 + 1 * 4, none⟩)) rfl rfl (by kernel_rfl) (exec_indexS (k := 1) (n := 9) (cp := c9) (by omega) rfl (by kernel_rfl) (by kernel_rfl)) ?_
            refine w_card 66 rfl rfl (by kernel_rfl) _ rfl (by kernel_rfl) p1 (fun w' h => rd_cells HRp.out h A1.out) ?_
            refine w_pure 67 (v := .slice (some ⟨b0, o0, none⟩) n cp) rfl rfl (by kernel_rfl) (fun w => by kernel_rfl) ?_
            refine w_pure 68 (v := .int .i64 k) rfl rfl (by kernel_rfl) (fun w => by kernel_rfl) ?_
            refine w_pure 69 (v := .pointer (some ⟨b0, o0 + k * 4, none⟩)) rfl rfl (by kernel_rfl) (exec_indexS (n := n) (cp := cp) (by omega) rfl (by kernel_rfl) (by kernel_rfl)) ?_
            refine w_card 70 rfl rfl (by kernel_rfl) _ rfl (by kernel_rfl) y (fun w' h => rd_cells HRl.out h HY.out) ?_
            refine w_pure 71 (v := .bool true) rfl rfl (by kernel_rfl) (fun w => by rw [exec_eqlC O1.out HYo.out rfl (by kernel_rfl) (by kernel_rfl) w, E1.out]) ?_
            refine w_pure 72 (v := .bool true) rfl rfl (by kernel_rfl) (fun w => by kernel_rfl) ?_
            refine w_pure 73 (v := .bool true) rfl rfl (by kernel_rfl) (fun w => by kernel_rfl) ?_
            refine w_pure 74 (v := .slice (some ⟨g9, 0, none⟩) 9 c9) rfl rfl (by kernel_rfl) (fun w => by kernel_rfl) ?_
            refine w_pure 75 (v := .int .i64 ((3 : Nat) : Int)) rfl rfl (by kernel_rfl) (fun w => by kernel_rfl) ?_
            refine w_pure 76 (v := .pointer (some ⟨g9, 0 + 3 * 4, none⟩)) rfl rfl (by kernel_rfl) (exec_indexS (k := 3) (n := 9) (cp := c9) (by omega) rfl (by kernel_rfl) (by kernel_rfl)) ?_
            refine w_card 77 rfl rfl (by kernel_rfl) _ rfl (by kernel_rfl) pn (fun w' h => rd_cells HRp.out h An.out) ?_
            refine w_pure 78 (v := .slice (some ⟨b0, o0, none⟩) n cp) rfl rfl (by kernel_rfl) (fun w => by kernel_rfl) ?_
            refine w_pure 79 (v := .int .i64 m) rfl rfl (by kernel_rfl) (fun w => by kernel_rfl) ?_
            refine w_pure 80 (v := .pointer (some ⟨b0, o0 + m * 4, none⟩)) rfl rfl (by kernel_rfl) (exec_indexS (n := n) (cp := cp) (by omega) rfl (by kernel_rfl) (by kernel_rfl)) ?_
            refine w_card 81 rfl rfl (by kernel_rfl) _ rfl (by kernel_rfl) z (fun w' h => rd_cells HRl.out h HZ.out) ?_
            refine w_pure 82 (v := .bool (same pn z)) rfl rfl (by kernel_rfl) (fun w => exec_eqlC On.out HZo.out rfl (by kernel_rfl) (by kernel_rfl) w) ?_
            refine w_pure 83 (v := .bool (same pn z)) rfl rfl (by kernel_rfl) (fun w => by kernel_rfl) ?_
            refine w_pure 8 (v := .bool (same pn z)) rfl rfl (by kernel_rfl) (fun w => by kernel_rfl) ?_
            intro w7 b7
            simp only [Act.put, List.setIfInBounds_toArray, List.set_cons_zero, List.set_cons_succ]
            have HB7 := Lib.hid (chain0 HB.out b7)
            clear b7
            go_wp2_with fail
            go_ret
            exact ⟨ret_bool (by rw [HF.out]), HB7.out⟩
end Go.Proofs.Ytdhcdogmbclhaaa.planes

/- CountPlanes: the model's. -/
namespace Go.Proofs.Ytdhcdogmbclhaaa.planes
open Go.RowKit
open cards reg
set_option linter.unusedVariables false

/-- How many are counted so far. -/
def CpS (l : List Cd) (i k m b : Nat) (c : Int) : Prop := ∃ Qs : List (List Cd), Qs.Nodup ∧ (∀ P, P ∈ Qs ↔ fndS l i k m P) ∧ c = (Qs.length : Int) ∧ Qs.length ≤ b
theorem CpS.to {l : List Cd} {i k m b i' k' m' b' : Nat} {c : Int} (h : CpS l i k m b c) (hp : ∀ P, fndS l i k m P ↔ fndS l i' k' m' P) (hb : b ≤ b') : CpS l i' k' m' b' c := by
  obtain ⟨Qs, h1, h2, h3, h4⟩ := h
  exact ⟨Qs, h1, fun P => (h2 P).trans (hp P), h3, Nat.le_trans h4 hb⟩
theorem CpS.more {l : List Cd} {i k m b : Nat} {c : Int} {x y z : Cd} (h : CpS l i k m b c) (hs : sorted l) (h1 : i < k) (h2 : k < m) (hx : l[i]? = some x) (hy : l[k]? = some y) (hz : l[m]? = some z) (ht : third x y ∈ l) (hne : z ≠ third x y) (hf : frB l x y z = true) : CpS l i k (m + 1) (b + 1) (c + 1) := by
  obtain ⟨Qs, g1, g2, g3, g4⟩ := h
  have hnew : span [x, y, z] ∉ Qs := fun e => fndS_new hs hx hy hz hf ((g2 _).1 e)
  refine ⟨Qs ++ [span [x, y, z]], ?_, fun P => ?_, ?_, ?_⟩
  · rw [List.nodup_append]
    exact ⟨g1, by simp, fun u hu v hv e => by
      rw [List.mem_singleton] at hv
      rw [hv] at e
      rw [e] at hu
      exact hnew hu⟩
  · rw [← fndS_step h1 h2 hx hy hz ht hne hf, List.mem_append, List.mem_singleton, g2 P]
  · rw [g3]; simp
  · simp; omega
theorem CpS.bd {l : List Cd} {i k m b : Nat} {c : Int} (h : CpS l i k m b c) : 0 ≤ c ∧ c ≤ b := by
  obtain ⟨Qs, _, _, g3, g4⟩ := h
  omega

set_option maxRecDepth 100000 in
set_option maxHeartbeats 16000000 in
theorem spec_cp (l : List Cd) (p : Option Addr) (n cp : Nat) (w : World) (hn : l.length = n) (hl : n ≤ 1000000000) (hr : Rd w p (flat l)) (hcp : n ≤ cp) :
    Calls Try.prog 32 #[.slice p n cp] w fun e w' => e = .returned (.tuple #[.int .i64 (cpR l).1, .bool (cpR l).2]) ∧ Below w.heap.size w w' := by
  have HN := Lib.hid hn
  have HI := Lib.hid (fun w hr => l2_hand l p n cp w hn hl hr)
  have HR0 := Lib.hid hr
  have HR := Lib.hid hr
  clear hr hn
  cases hh : handB l
  · have HT := Lib.hid (show cpR l = (0, false) by unfold cpR; rw [if_neg (by simp [hh])])
    rw [hh] at HI
    clear hh
    go_enter Try.func32, Try.ntmps32
    go_wp2_with fail
    refine ((HI.out _ HR.out)).mono ?_
    rintro e w1 ⟨rfl, b⟩
    have Sw1 := Lib.hid b.size
    have HB := Lib.hid (chain0 (w := w) (by repeat (first | with_reducible exact Below.refl _ _ | with_reducible exact HB.out | with_reducible apply Below.drew | with_reducible apply bdN | with_reducible refine Below.alloc ?_ (by first | exact Nat.le_refl _ | with_reducible exact HB.out.size | omega | (simp; done) | (simp; omega) | (have := HB.out.size; simp at *; omega)) _ | with_reducible refine Below.setCell ?_ (by first | exact Nat.le_refl _ | with_reducible exact HB.out.size | omega | (simp; done) | (simp; omega) | (have := HB.out.size; simp at *; omega)) _)) b)
    have HR := Lib.hid (Rd.below (by repeat (first | with_reducible exact HR.out | with_reducible apply Rd.drewN | with_reducible apply Rd.drew | with_reducible apply Rd.alloc)) b)
    clear b
    go_wp2_with fail
    go_ret2
    exact ⟨by rw [HT.out]; rfl, by repeat (first | with_reducible exact Below.refl _ _ | with_reducible exact HB.out | with_reducible apply Below.drew | with_reducible apply bdN | with_reducible refine Below.alloc ?_ (by first | exact Nat.le_refl _ | with_reducible exact HB.out.size | omega | (simp; done) | (simp; omega) | (have := HB.out.size; simp at *; omega)) _ | with_reducible refine Below.setCell ?_ (by first | exact Nat.le_refl _ | with_reducible exact HB.out.size | omega | (simp; done) | (simp; omega) | (have := HB.out.size; simp at *; omega)) _)⟩
  · have HT := Lib.hid (show cpR l = ((plN l : Int), true) by unfold cpR; rw [if_pos hh])
    have HH := Lib.hid (handB_true.1 hh)
    have hn27 : n ≤ 27 := by have := HH.out.1; have := HN.out; omega
    rw [hh] at HI
    clear hh
    go_enter Try.func32, Try.ntmps32
    go_wp2_with fail
    refine ((HI.out _ HR.out)).mono ?_
    rintro e w1 ⟨rfl, b⟩
    have Sw1 := Lib.hid b.size
    have HB := Lib.hid (chain0 (w := w) (by repeat (first | with_reducible exact Below.refl _ _ | with_reducible exact HB.out | with_reducible apply Below.drew | with_reducible apply bdN | with_reducible refine Below.alloc ?_ (by first | exact Nat.le_refl _ | with_reducible exact HB.out.size | omega | (simp; done) | (simp; omega) | (have := HB.out.size; simp at *; omega)) _ | with_reducible refine Below.setCell ?_ (by first | exact Nat.le_refl _ | with_reducible exact HB.out.size | omega | (simp; done) | (simp; omega) | (have := HB.out.size; simp at *; omega)) _)) b)
    have HR := Lib.hid (Rd.below (by repeat (first | with_reducible exact HR.out | with_reducible apply Rd.drewN | with_reducible apply Rd.drew | with_reducible apply Rd.alloc)) b)
    clear b
    go_wp2_with fail
    go_loopw [4, 5] (fun cv iv wr => ∃ (i : Nat) (c : Int), i ≤ n ∧ iv = .int .i64 i ∧ cv = .int .i64 c ∧ Hid (CpS l i (i + 1) (i + 1 + 1) (1000 * i) c) ∧ Hid (Below w.heap.size w wr)) (fun _ iv _ => n - (intOf iv).toNat)
    case atStart => exact ⟨0, 0, Nat.zero_le _, rfl, rfl, Lib.hid ⟨[], List.nodup_nil, fun P => ⟨fun h => absurd h (by simp), fun h => absurd h (fndS_zero l P 0 0)⟩, rfl, Nat.zero_le _⟩, HB⟩
    case round =>
      clear HB HR
      obtain ⟨i, c0, hi, rfl, rfl, HC, HB⟩ := hrel
      have m0 : (0 : Int) ≤ (i : Int) := by omega
      by_cases hit : i < n
      · have m1 : (i : Int) < (n : Int) := by omega
        obtain ⟨x, hx⟩ : ∃ x, l[i]? = some x := ⟨_, List.getElem?_eq_getElem (by rw [HN.out]; exact hit)⟩
        have HX := Lib.hid hx
        have HXo := Lib.hid (ok_at HH.out.2.1 hx)
        clear hx
        go_wp2_with fail
        go_loopw [4, 6] (fun cv kv wr => ∃ (k : Nat) (K : Int) (c : Int), i + 1 ≤ k ∧ k ≤ n ∧ K = (k : Int) ∧ kv = .int .i64 K ∧ cv = .int .i64 c ∧ Hid (CpS l i k (k + 1) (1000 * i + 30 * k) c) ∧ Hid (Below w.heap.size w wr)) (fun _ kv _ => n - (intOf kv).toNat)
        case atStart => exact ⟨i + 1, (i : Int) + 1, c0, Nat.le_refl _, hit, by omega, rfl, rfl, Lib.hid (HC.out.to (fun _ => Iff.rfl) (by omega)), HB⟩
        case round =>
          clear HC HB
          obtain ⟨k, K, c1, hk1, hk2, hK, rfl, rfl, HC, HB⟩ := hrel
          have HK := Lib.hid hK
          have n0 : (0 : Int) ≤ K := by omega
          by_cases hkt : k < n
          · have n1 : K < (n : Int) := by omega
            obtain rfl : K = (k : Int) := hK
            clear HK
            obtain ⟨b0, o0, y, rfl, hb0, hy, d0, d1, d2, d3⟩ := (HR0.out.below HB.out).card (k := k) (by rw [HN.out]; exact hkt)
            have HY := Lib.hid hy
            have HYo := Lib.hid (ok_at HH.out.2.1 hy)
            have HRw := Lib.hid (HR0.out.below HB.out)
            clear hy d0 d1 d2 d3
            go_upto_region 10 with fail
            refine region_vb 33 #[.int .i64 0, .int .i64 0, .int .i64 0, .int .i64 0] [(true, 0), (true, 1), (true, 2), (true, 3), (true, 4), (true, 5), (true, 6), (true, 7), (false, 8)] 9 10 7 [] _ _ 34 (by kernel_rfl) (fun w => by kernel_rfl) (by kernel_rfl) rfl rfl (by kernel_rfl) rfl rfl rfl rfl rfl rfl rfl rfl (by decide) (of_decide_eq_true rfl) ?_
            refine chain_pure 26 (v := .slice (some ⟨b0, o0, none⟩) n cp) rfl rfl rfl (fun w => by kernel_rfl) ?_
            refine chain_pure 27 (v := .int .i64 i) rfl rfl rfl (fun w => by kernel_rfl) ?_
            refine chain_pure 28 (v := .pointer (some ⟨b0, o0 + i * 4, none⟩)) rfl rfl rfl (exec_indexS (n := n) (cp := cp) hit rfl (by kernel_rfl) (by kernel_rfl)) ?_
            refine chain_card 29 rfl rfl rfl _ rfl (by kernel_rfl) x (fun w' h => rd_cells HRw.out h HX.out) ?_
            refine chain_pure 30 (v := .slice (some ⟨b0, o0, none⟩) n cp) rfl rfl rfl (fun w => by kernel_rfl) ?_
            refine chain_pure 31 (v := .int .i64 k) rfl rfl rfl (fun w => by kernel_rfl) ?_
            refine chain_pure 32 (v := .pointer (some ⟨b0, o0 + k * 4, none⟩)) rfl rfl rfl (exec_indexS (n := n) (cp := cp) hkt rfl (by kernel_rfl) (by kernel_rfl)) ?_
            refine chain_card 33 rfl rfl rfl _ rfl (by kernel_rfl) y (fun w' h => rd_cells HRw.out h HY.out) ?_
            refine chain_call 34 rfl rfl rfl (fun w => by kernel_rfl) (fun w0 h0 => l2_third x y w0 HXo.out HYo.out) ?_
            intro wz g7 hI hg hb
            refine ⟨by kernel_rfl, #[.int .i64 (third x y).a, .int .i64 (third x y).b, .int .i64 (third x y).c, .int .i64 (third x y).d], by kernel_rfl, rfl, by simp [Value.oneCell'], ?_⟩
            intro w5 R1 b5
            refine ⟨_, rfl, ?_⟩
            simp only [Act.put, List.setIfInBounds_toArray, List.set_cons_zero, List.set_cons_succ]
            have K7 : Hid (Box w5 g7 (third x y)) := Lib.hid R1.out
            have HB := Lib.hid (chain0 HB.out b5)
            clear b5 hI hg hb R1 HRw hb0
            unfold ptr
            have HTo := Lib.hid (third_ok x y)
            have HMm := Lib.hid (there_mem (c := third x y) HH.out.2.2 HH.out.2.1 HTo.out)
            have hh2 := fun w hr => l2_has l (third x y) (some ⟨b0, o0, none⟩) n cp w HN.out (by omega) hr HH.out.2.1 HTo.out HH.out.2.2
            obtain ⟨t, ht⟩ : ∃ t, third x y = t := ⟨_, rfl⟩
            have HTe := Lib.hid ht
            rw [ht] at hh2 HTo HMm K7
            clear ht
            obtain ⟨k7a, k7b, k7c, k7d⟩ := K7.out.cell
            cases hth : there l t
            · rw [hth] at hh2
              have Hh := Lib.hid hh2
              have HC2 := Lib.hid (HC.out.to (fun P => fndS_jump HX.out HY.out (by rw [HTe.out]; exact fun e => by rw [HMm.out.2 e] at hth; cases hth)) (b' := 1000 * i + 30 * (k + 1)) (by omega))
              clear hh2 hth
              go_wp2_with fail
              refine (Hh.out _ (HR0.out.below HB.out)).mono ?_
              rintro e w6 ⟨rfl, q⟩
              have HB := Lib.hid (chain0 HB.out q)
              clear q k7a k7b k7c k7d K7
              go_wp2_with fail
              go_roundw
              case rel => exact ⟨k + 1, _, c1, by omega, by omega, by omega, rfl, rfl, HC2, HB⟩
              case measure => simp [intOf]; omega
            · rw [hth] at hh2
              have Hh := Lib.hid hh2
              have HTl := Lib.hid (HMm.out.1 hth)
              clear hh2 hth
              go_wp2_with fail
              refine (Hh.out _ (HR0.out.below HB.out)).mono ?_
              rintro e w6 ⟨rfl, q⟩
              have HB := Lib.hid (chain0 HB.out q)
              have K7 := Lib.hid (K7.out.below q)
              clear q k7a k7b k7c k7d
              go_wp2_with fail
              go_loopw [4, 8] (fun cv mv wr => ∃ (m : Nat) (M : Int) (c : Int), k + 1 ≤ m ∧ m ≤ n ∧ M = (m : Int) ∧ mv = .int .i64 M ∧ cv = .int .i64 c ∧ Hid (CpS l i k m (1000 * i + 30 * k + m) c) ∧ Hid (Below w.heap.size w wr) ∧ Hid (Box wr g7 t)) (fun _ mv _ => n - (intOf mv).toNat)
              case atStart => exact ⟨k + 1, (k : Int) + 1, c1, Nat.le_refl _, hkt, by omega, rfl, rfl, Lib.hid (HC.out.to (fun _ => Iff.rfl) (by omega)), HB, K7⟩
              case round =>
                clear HC HB K7
                obtain ⟨m, M, c2, hm1, hm2, hM, rfl, rfl, HC, HB, K7⟩ := hrel
                have q0 : (0 : Int) ≤ M := by omega
                by_cases hmt : m < n
                · have q1 : M < (n : Int) := by omega
                  obtain rfl : M = (m : Int) := hM
                  obtain ⟨z, hz⟩ : ∃ z, l[m]? = some z := ⟨_, List.getElem?_eq_getElem (by rw [HN.out]; exact hmt)⟩
                  have HZ := Lib.hid hz
                  have HZo := Lib.hid (ok_at HH.out.2.1 hz)
                  have HRw := Lib.hid (HR0.out.below HB.out)
                  have hcb := HC.out.bd
                  clear hz
                  go_upto_region 15 with fail
                  cases hzt : same z t
                  · have HZt := Lib.hid hzt
                    have HNe := Lib.hid (show z ≠ third x y by rw [HTe.out]; exact fun e => by rw [same_iff.2 e] at hzt; cases hzt)
                    have l1 := sorted_lt HH.out.2.2 (show i < k by omega) HX.out HY.out
                    have l2 := sorted_lt HH.out.2.2 (show k < m by omega) HY.out HZ.out
                    have HTr := Lib.hid (tri_of HXo.out HYo.out HZo.out (fun e => by rw [e] at l1; omega) (fun e => by rw [e] at l1; omega) (fun e => by rw [e] at l2; omega) HNe.out)
                    have HF := Lib.hid (fun w hr => l6_first l b0 o0 n cp i k m x y z w HN.out (by omega) hr HH.out.2.1 HH.out.2.2 (by omega) (by omega) hmt HX.out HY.out HZ.out HTr.out)
                    clear hzt l1 l2
                    cases hfr : frB l x y z
                    · have HC2 := Lib.hid (HC.out.to (fun P => fndS_skip HX.out HY.out HZ.out (.inr hfr)) (b' := 1000 * i + 30 * k + (m + 1)) (by omega))
                      have hf2 := HF.out
                      rw [hfr] at hf2
                      have HF2 := Lib.hid hf2
                      clear hf2 hfr HF
                      refine region_WB [(true, 0), (true, 1), (true, 2), (true, 3), (true, 4), (true, 5), (true, 6), (true, 7), (true, 8), (true, 9), (true, 10), (false, 11), (true, 12)] (by kernel_rfl) rfl (by kernel_rfl) ?_
                      refine w_pure 47 (v := .slice (some ⟨b0, o0, none⟩) n cp) rfl rfl (by kernel_rfl) (fun w => by kernel_rfl) ?_
                      refine w_pure 48 (v := .int .i64 m) rfl rfl (by kernel_rfl) (fun w => by kernel_rfl) ?_
                      refine w_pure 49 (v := .pointer (some ⟨b0, o0 + m * 4, none⟩)) rfl rfl (by kernel_rfl) (exec_indexS (n := n) (cp := cp) hmt rfl (by kernel_rfl) (by kernel_rfl)) ?_
                      refine w_card 50 rfl rfl (by kernel_rfl) _ rfl (by kernel_rfl) z (fun w' h => rd_cells HRw.out h HZ.out) ?_
                      refine w_card 51 (g := g7) (off := 0) rfl rfl (by kernel_rfl) _ rfl (by kernel_rfl) t (fun w' h => (K7.out.below h).cell) ?_
                      refine w_pure 52 (v := .bool true) rfl rfl (by kernel_rfl) (fun w => by rw [exec_neqC HZo.out HTo.out rfl (by kernel_rfl) (by kernel_rfl) w, HZt.out]; rfl) ?_
                      refine w_pure 53 (v := .bool true) rfl rfl (by kernel_rfl) (fun w => by kernel_rfl) ?_
                      refine w_pure 54 (v := .slice (some ⟨b0, o0, none⟩) n cp) rfl rfl (by kernel_rfl) (fun w => by kernel_rfl) ?_
                      refine w_pure 55 (v := .int .i64 i) rfl rfl (by kernel_rfl) (fun w => by kernel_rfl) ?_
                      refine w_pure 56 (v := .int .i64 k) rfl rfl (by kernel_rfl) (fun w => by kernel_rfl) ?_
                      refine w_pure 57 (v := .int .i64 m) rfl rfl (by kernel_rfl) (fun w => by kernel_rfl) ?_
                      refine w_call 58 rfl rfl (by kernel_rfl) (fun w => by kernel_rfl) (fun w0 h0 => HF2.out w0 (HRw.out.below h0)) ?_
                      refine w_pure 59 (v := .bool false) rfl rfl (by kernel_rfl) (fun w => by kernel_rfl) ?_
                      intro w8 b8
                      simp only [Act.put, List.setIfInBounds_toArray, List.set_cons_zero, List.set_cons_succ]
                      have HB := Lib.hid (chain0 HB.out b8)
                      have K7 := Lib.hid (K7.out.below b8)
                      clear b8 HRw
                      go_wp2_with fail
                      go_roundw
                      case rel => exact ⟨m + 1, _, c2, by omega, by omega, by omega, rfl, by go_num, HC2, HB, K7⟩
                      case measure => simp [intOf]; omega
                    · have HC2 : Hid (CpS l i k (m + 1) (1000 * i + 30 * k + (m + 1)) (c2 + 1)) := Lib.hid (HC.out.more HH.out.2.2 (by omega) (by omega) HX.out HY.out HZ.out (by rw [HTe.out]; exact HTl.out) HNe.out hfr)
                      have hf2 := HF.out
                      rw [hfr] at hf2
                      have HF2 := Lib.hid hf2
                      clear hf2 hfr HF
                      refine region_WB [(true, 0), (true, 1), (true, 2), (true, 3), (true, 4), (true, 5), (true, 6), (true, 7), (true, 8), (true, 9), (true, 10), (false, 11), (true, 12)] (by kernel_rfl) rfl (by kernel_rfl) ?_
                      refine w_pure 47 (v := .slice (some ⟨b0, o0, none⟩) n cp) rfl rfl (by kernel_rfl) (fun w => by kernel_rfl) ?_
                      refine w_pure 48 (v := .int .i64 m) rfl rfl (by kernel_rfl) (fun w => by kernel_rfl) ?_
                      refine w_pure 49 (v := .pointer (some ⟨b0, o0 + m * 4, none⟩)) rfl rfl (by kernel_rfl) (exec_indexS (n := n) (cp := cp) hmt rfl (by kernel_rfl) (by kernel_rfl)) ?_
                      refine w_card 50 rfl rfl (by kernel_rfl) _ rfl (by kernel_rfl) z (fun w' h => rd_cells HRw.out h HZ.out) ?_
                      refine w_card 51 (g := g7) (off := 0) rfl rfl (by kernel_rfl) _ rfl (by kernel_rfl) t (fun w' h => (K7.out.below h).cell) ?_
                      refine w_pure 52 (v := .bool true) rfl rfl (by kernel_rfl) (fun w => by rw [exec_neqC HZo.out HTo.out rfl (by kernel_rfl) (by kernel_rfl) w, HZt.out]; rfl) ?_
                      refine w_pure 53 (v := .bool true) rfl rfl (by kernel_rfl) (fun w => by kernel_rfl) ?_
                      refine w_pure 54 (v := .slice (some ⟨b0, o0, none⟩) n cp) rfl rfl (by kernel_rfl) (fun w => by kernel_rfl) ?_
                      refine w_pure 55 (v := .int .i64 i) rfl rfl (by kernel_rfl) (fun w => by kernel_rfl) ?_
                      refine w_pure 56 (v := .int .i64 k) rfl rfl (by kernel_rfl) (fun w => by kernel_rfl) ?_
                      refine w_pure 57 (v := .int .i64 m) rfl rfl (by kernel_rfl) (fun w => by kernel_rfl) ?_
                      refine w_call 58 rfl rfl (by kernel_rfl) (fun w => by kernel_rfl) (fun w0 h0 => HF2.out w0 (HRw.out.below h0)) ?_
                      refine w_pure 59 (v := .bool true) rfl rfl (by kernel_rfl) (fun w => by kernel_rfl) ?_
                      intro w8 b8
                      simp only [Act.put, List.setIfInBounds_toArray, List.set_cons_zero, List.set_cons_succ]
                      have HB := Lib.hid (chain0 HB.out b8)
                      have K7 := Lib.hid (K7.out.below b8)
                      clear b8 HRw
                      go_wp2_with fail
                      go_roundw
                      case rel => exact ⟨m + 1, _, c2 + 1, by omega, by omega, by omega, rfl, by go_num, HC2, HB, K7⟩
                      case measure => simp [intOf]; omega
                  · have HZt := Lib.hid hzt
                    have HC2 := Lib.hid (HC.out.to (fun P => fndS_skip HX.out HY.out HZ.out (.inl (by rw [HTe.out]; exact same_iff.1 hzt))) (b' := 1000 * i + 30 * k + (m + 1)) (by omega))
                    clear hzt
                    refine region_WB [(true, 0), (true, 1), (true, 2), (true, 3), (true, 4), (true, 5), (true, 6), (true, 7), (true, 8), (true, 9), (true, 10), (true, 11), (true, 12)] (by kernel_rfl) rfl (by kernel_rfl) ?_
                    refine w_pure 47 (v := .slice (some ⟨b0, o0, none⟩) n cp) rfl rfl (by kernel_rfl) (fun w => by kernel_rfl) ?_
                    refine w_pure 48 (v := .int .i64 m) rfl rfl (by kernel_rfl) (fun w => by kernel_rfl) ?_
                    refine w_pure 49 (v := .pointer (some ⟨b0, o0 + m * 4, none⟩)) rfl rfl (by kernel_rfl) (exec_indexS (n := n) (cp := cp) hmt rfl (by kernel_rfl) (by kernel_rfl)) ?_
                    refine w_card 50 rfl rfl (by kernel_rfl) _ rfl (by kernel_rfl) z (fun w' h => rd_cells HRw.out h HZ.out) ?_
                    refine w_card 51 (g := g7) (off := 0) rfl rfl (by kernel_rfl) _ rfl (by kernel_rfl) t (fun w' h => (K7.out.below h).cell) ?_
                    refine w_pure 52 (v := .bool false) rfl rfl (by kernel_rfl) (fun w => by rw [exec_neqC HZo.out HTo.out rfl (by kernel_rfl) (by kernel_rfl) w, HZt.out]; rfl) ?_
                    refine w_pure 53 (v := .bool false) rfl rfl (by kernel_rfl) (fun w => by kernel_rfl) ?_
                    refine w_skip 54 rfl rfl (by kernel_rfl) ?_
                    refine w_skip 55 rfl rfl (by kernel_rfl) ?_
                    refine w_skip 56 rfl rfl (by kernel_rfl) ?_
                    refine w_skip 57 rfl rfl (by kernel_rfl) ?_
                    refine w_skip 58 rfl rfl (by kernel_rfl) ?_
                    refine w_pure 59 (v := .bool false) rfl rfl (by kernel_rfl) (fun w => by kernel_rfl) ?_
                    intro w8 b8
                    simp only [Act.put, List.setIfInBounds_toArray, List.set_cons_zero, List.set_cons_succ]
                    have HB := Lib.hid (chain0 HB.out b8)
                    have K7 := Lib.hid (K7.out.below b8)
                    clear b8 HRw
                    go_wp2_with fail
                    go_roundw
                    case rel => exact ⟨m + 1, _, c2, by omega, by omega, by omega, rfl, by go_num, HC2, HB, K7⟩
                    case measure => simp [intOf]; omega
                · have HC2 := Lib.hid (HC.out.to (fun P => fndS_row (by rw [HN.out]; omega)) (b' := 1000 * i + 30 * (k + 1)) (by omega))
                  have q1 : ¬ M < (n : Int) := by omega
                  go_wp2_with fail
                  go_roundw
                  case rel => exact ⟨k + 1, _, c2, by omega, by omega, by omega, rfl, rfl, HC2, HB⟩
                  case measure => simp [intOf]; omega
          · have HC2 := Lib.hid (HC.out.to (fun P => fndS_next (by rw [HN.out]; omega)) (b' := 1000 * (i + 1)) (by omega))
            have n1 : ¬ K < (n : Int) := by omega
            clear hK
            go_wp2_with fail
            go_roundw
            case rel => exact ⟨i + 1, c1, by omega, by go_num, rfl, HC2, HB⟩
            case measure => simp [intOf]; omega
      · obtain rfl : i = n := by omega
        have HL : Hid (c0 = (plN l : Int)) := Lib.hid (by
          obtain ⟨Qs, g1, g2, g3, _⟩ := HC.out
          rw [g3, plN_is g1 (fun P => (g2 P).trans (fndS_all HN.out HH.out.2.2 HH.out.2.1))])
        go_wp2_with fail
        go_ret2
        exact ⟨by rw [HT.out, ← HL.out]; rfl, HB.out⟩
end Go.Proofs.Ytdhcdogmbclhaaa.planes

