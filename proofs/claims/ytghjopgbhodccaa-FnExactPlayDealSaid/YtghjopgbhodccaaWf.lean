/- PlayDeal: the program and the model alike. -/
import Derived.Test.YtghjopgbhodccaaWe
import Derived.Test.YtghjopgbhodccaaSo
import Derived.Test.YtghjopgbhodccaaSs
namespace Go.Proofs.Ytghjopgbhodccaa.deal
open Go.RowKit
open cards
set_option linter.unusedVariables false

noncomputable def plT (s : Int) : Int := if isSd s = true then tk (newD s) (lastK (newD s)) else 0
noncomputable def plM (s : Int) : Int := if isSd s = true then (lastK (newD s) : Int) - tk (newD s) (lastK (newD s)) else 0
noncomputable def plR (s : Int) : List Cd × Bool := if isSd s = true then (allPut (stp (newD s) (lastK (newD s))).l, true) else ([], false)
theorem allPut_short {l : List Cd} (hok : l.all Cd.ok = true) : (allPut l).length ≤ l.length := by
  obtain ⟨h1, _, h3⟩ := allPut_is hok
  refine nodup_len _ _ ?_ (fun x hx => (h3 x).1 hx)
  exact List.nodup_iff_pairwise_ne.2 (h1.imp (fun h e => by rw [e] at h; omega))
theorem plR_len (s : Int) : (plR s).1.length ≤ 1000 := by
  unfold plR; split
  · rename_i h
    have hs := isSd_iff.1 h
    have h1 := (last_27 hs (lastK_end (new_ok hs))).1
    have h2 := allPut_short (stp_ok (new_ok hs) (lastK (newD s))).cards
    show (allPut _).length ≤ _
    omega
  · simp
theorem ret4 {a b a' b' : Int} {v : Value} {c c' : Bool} (h : (a, b, c) = (a', b', c')) : Ending.returned (.tuple #[.int .i64 a, .int .i64 b, v, .bool c]) = .returned (.tuple #[.int .i64 a', .int .i64 b', v, .bool c']) := by cases h; rfl

set_option maxRecDepth 100000 in
set_option maxHeartbeats 4000000 in
theorem impl_play (s : Int) (w : World) :
    Calls Try.prog 49 #[.int .i64 s] w fun e w' => ∃ u, e = .returned (.tuple #[.int .i64 (plT s), .int .i64 (plM s), u, .bool (plR s).2]) ∧ Own w' w.heap.size u (plR s).1 ∧ Below w.heap.size w w' := by
  go_enter Try.func49, Try.ntmps49
  go_wp2_with fail
  refine ((is_seed s _)).mono ?_
  rintro e w1 ⟨rfl, b⟩
  have Sw1 := Lib.hid b.size
  have HB := Lib.hid (chain0 (w := w) (by repeat (first | with_reducible exact Below.refl _ _ | with_reducible exact HB.out | with_reducible apply Below.drew | with_reducible apply bdN | with_reducible refine Below.alloc ?_ (by first | exact Nat.le_refl _ | (simp; done) | (simp; omega) | (have := HB.out.size; simp at *; omega)) _ | with_reducible refine Below.setCell ?_ (by first | exact Nat.le_refl _ | (simp; done) | (simp; omega) | (have := HB.out.size; simp at *; omega)) _)) b)
  clear b
  cases hs : isSd s
  · have HT := Lib.hid (show plR s = ([], false) ∧ plT s = 0 ∧ plM s = 0 by unfold plR plT plM; simp [hs])
    go_wp2_with fail
    try simp only [Exit.inBlock, Exit.then]
    refine bodyPost_ret (v := .tuple #[.int .i64 0, .int .i64 0, .slice (some ⟨w1.heap.size, 0, none⟩) 0 0, .bool false]) (by simp [results, Try.results49, go_sem]) rfl ?_
    exact ⟨_, ret4 (by rw [HT.out.1, HT.out.2.1, HT.out.2.2]), by rw [HT.out.1]; exact Own.empty _ _ HB.out.size, by repeat (first | with_reducible exact Below.refl _ _ | with_reducible exact HB.out | with_reducible apply Below.drew | with_reducible apply bdN | with_reducible refine Below.alloc ?_ (by first | exact Nat.le_refl _ | (simp; done) | (simp; omega) | (have := HB.out.size; simp at *; omega)) _ | with_reducible refine Below.setCell ?_ (by first | exact Nat.le_refl _ | (simp; done) | (simp; omega) | (have := HB.out.size; simp at *; omega)) _)⟩
  · obtain ⟨K, hK⟩ : ∃ K, lastK (newD s) = K := ⟨_, rfl⟩
    have hs2 := isSd_iff.1 hs
    have hK2 : K ≤ 200 := by rw [← hK]; exact last_bd hs2
    have HKe := Lib.hid (show endAt (newD s) K by rw [← hK]; exact lastK_end (new_ok hs2))
    obtain ⟨T, hTk⟩ : ∃ T, tk (newD s) K = T := ⟨_, rfl⟩
    obtain ⟨l, hll⟩ : ∃ l, (stp (newD s) K).l = l := ⟨_, rfl⟩
    obtain ⟨n, hn⟩ : ∃ n, l.length = n := ⟨_, rfl⟩
    have hfacts := last_27 hs2 HKe.out
    rw [hTk, hll, hn] at hfacts
    have HK := Lib.hid (show l.all Cd.ok = true by rw [← hll]; exact (stp_ok (new_ok hs2) K).cards)
    have HT := Lib.hid (show plR s = (allPut l, true) ∧ plT s = T ∧ plM s = (K : Int) - T by unfold plR plT plM; simp only [hs, if_true]; rw [hK, hTk, hll]; exact ⟨rfl, rfl, rfl⟩)
    have HSr := Lib.hid (show sortR l = (allPut l, true) by unfold sortR; rw [if_pos ⟨HK.out, by have := allPut_short HK.out; omega⟩])
    have HLl := Lib.hid hll
    have HN := Lib.hid hn
    obtain ⟨f1, f2, f3, f4, _⟩ := hfacts
    have hq : (81 - (n : Int)) / 3 = T := by omega
    have hq0 : (0 : Int) ≤ 81 - (n : Int) := by omega
    have hnT : (n : Int) = 81 - 3 * T := by omega
    have HnT := Lib.hid hnT
    clear hs hK hTk hll hn hnT f2
    go_wp2_with fail
    refine (deals_from s _ hs2 K HKe.out hK2).mono ?_
    rintro e w2 ⟨u, rs, g, rfl, ho, hln, hrs, b⟩
    obtain ⟨pu, cu, rfl, hcl⟩ := ho.form
    obtain ⟨gu, rfl, hgu, hcells⟩ := hcl (by omega)
    obtain ⟨r, hr⟩ : ∃ r, rs[K]? = some r := ⟨_, List.getElem?_eq_getElem (by omega)⟩
    obtain ⟨_, _, c2⟩ := hcells K r hr
    obtain ⟨pr, cr, hrv⟩ := (hrs K r hr).2.2.1
    have hown := (hrs K r hr).2.2.2.1
    rw [HLl.out] at hrv hown
    rw [HN.out] at hrv
    rw [hrv] at c2 hown
    rw [hln]
    have Sw2 := Lib.hid b.size
    have HB := Lib.hid (chain0 (w := w) (by repeat (first | with_reducible exact Below.refl _ _ | with_reducible exact HB.out | with_reducible apply Below.drew | with_reducible apply bdN | with_reducible refine Below.alloc ?_ (by first | exact Nat.le_refl _ | (simp; done) | (simp; omega) | (have := HB.out.size; simp at *; omega)) _ | with_reducible refine Below.setCell ?_ (by first | exact Nat.le_refl _ | (simp; done) | (simp; omega) | (have := HB.out.size; simp at *; omega)) _)) b)
    clear b
    have HR := Lib.hid hown.rd
    have hKi : (K : Int) + 1 - 1 = (K : Int) := by omega
    have hK0 : (0 : Int) ≤ (K : Int) := by omega
    have hK1 : (K : Int) < (K : Int) + 1 := by omega
    clear hcl hcells hgu hln hrs ho hr hrv hown
    obtain ⟨N, hN⟩ : ∃ N : Nat, N = K + 1 := ⟨_, rfl⟩
    have hNi : (N : Int) - 1 = (K : Int) := by omega
    have hN1 : (K : Int) < (N : Int) := by omega
    rw [← hN]
    clear hN hKi hK1
    go_wp2_with fail
    refine (impl_sort l pr n cr _ HN.out (by omega) HR.out).mono ?_
    rintro e w3 ⟨u, rfl, hu, b⟩
    rw [HSr.out] at hu ⊢
    have HZ := Lib.hid HB.out.size
    have Sw3 := Lib.hid b.size
    have HB := Lib.hid (chain0 (w := w) (by repeat (first | with_reducible exact Below.refl _ _ | with_reducible exact HB.out | with_reducible apply Below.drew | with_reducible apply bdN | with_reducible refine Below.alloc ?_ (by first | exact Nat.le_refl _ | (simp; done) | (simp; omega) | (have := HB.out.size; simp at *; omega)) _ | with_reducible refine Below.setCell ?_ (by first | exact Nat.le_refl _ | (simp; done) | (simp; omega) | (have := HB.out.size; simp at *; omega)) _)) b)
    have HR := Lib.hid (Rd.below (by repeat (first | with_reducible exact HR.out | with_reducible apply Rd.drewN | with_reducible apply Rd.drew | with_reducible apply Rd.alloc)) b)
    clear b
    have HU := Lib.hid (hu.base HZ.out)
    clear hu
    go_wp2_with fail
    try simp only [Exit.inBlock, Exit.then]
    refine bodyPost_ret (v := .tuple #[.int .i64 T, .int .i64 ((K : Int) - T), u, .bool true]) (by simp [results, Try.results49, go_sem, *]) rfl ?_
    exact ⟨_, ret4 (by rw [HT.out.1, HT.out.2.1, HT.out.2.2]), by rw [HT.out.1]; exact HU.out, HB.out⟩

/-- What holds at each round: the next Deal in block g. -/
def PInv (w w' : World) (s : Int) (k a n cp : Nat) (l : List Cd) (p : Option Addr) (g K : Nat) : Prop :=
  DBox w' g ⟨31, s, a, .slice p n cp⟩ ∧
  Own w' w.heap.size (.slice p n cp) l ∧ Off g (.slice p n cp) ∧ (∀ j, j < k → overD (stp (newD s) j) = false) ∧ Below w.heap.size w w' ∧ l.length = n ∧ stp (newD s) k = ⟨s, a, l⟩ ∧ w.heap.size ≤ g ∧ k ≤ K

set_option maxRecDepth 100000 in
set_option maxHeartbeats 4000000 in
theorem spec_play (s : Int) (w : World) :
    Calls Try.prog 48 #[.int .i64 s] w fun e w' => ∃ u, e = .returned (.tuple #[.int .i64 (plT s), .int .i64 (plM s), u, .bool (plR s).2]) ∧ Own w' w.heap.size u (plR s).1 ∧ Below w.heap.size w w' := by
  cases hs : isSd s
  · have HT := Lib.hid (show plR s = ([], false) ∧ plT s = 0 ∧ plM s = 0 by unfold plR plT plM; simp [hs])
    have HNd := Lib.hid (fun w => spec_nd s w)
    have HR : Hid (ndR s = (⟨0, 0, []⟩, false)) := Lib.hid (by unfold ndR; rw [if_neg (by simp [hs])])
    rw [HR.out] at HNd
    clear hs HR
    go_enter Try.func48, Try.ntmps48
    go_wp2_with fail
    refine (HNd.out _).mono ?_
    rintro e w1 ⟨u, rfl, hu, b⟩
    obtain ⟨pu, cu, rfl, _⟩ := hu.form
    clear hu
    have Sw1 := Lib.hid b.size
    have HB := Lib.hid (chain0 (w := w) (by repeat (first | with_reducible exact Below.refl _ _ | with_reducible exact HB.out | with_reducible apply Below.drew | with_reducible apply bdN | with_reducible refine Below.alloc ?_ (by first | exact Nat.le_refl _ | (simp; done) | (simp; omega) | (have := HB.out.size; simp at *; omega)) _ | with_reducible refine Below.setCell ?_ (by first | exact Nat.le_refl _ | (simp; done) | (simp; omega) | (have := HB.out.size; simp at *; omega)) _)) b)
    clear b
    go_wp2_with fail
    try simp only [Exit.inBlock, Exit.then]
    refine bodyPost_ret (v := .tuple #[.int .i64 0, .int .i64 0, .slice (some ⟨(w1.alloc (Dv.mk 31 0 0 (.slice pu 0 cu)).obj).heap.size, 0, none⟩) 0 0, .bool false]) (by simp [results, Try.results48, go_sem]) rfl ?_
    exact ⟨_, ret4 (by rw [HT.out.1, HT.out.2.1, HT.out.2.2]), by rw [HT.out.1]; exact Own.empty _ _ (by have := HB.out.size; simp; omega), by repeat (first | with_reducible exact Below.refl _ _ | with_reducible exact HB.out | with_reducible apply Below.drew | with_reducible apply bdN | with_reducible refine Below.alloc ?_ (by first | exact Nat.le_refl _ | (simp; done) | (simp; omega) | (have := HB.out.size; simp at *; omega)) _ | with_reducible refine Below.setCell ?_ (by first | exact Nat.le_refl _ | (simp; done) | (simp; omega) | (have := HB.out.size; simp at *; omega)) _)⟩
  · obtain ⟨K, hK⟩ : ∃ K, lastK (newD s) = K := ⟨_, rfl⟩
    have HT := Lib.hid (show plR s = (allPut (stp (newD s) K).l, true) ∧ plT s = tk (newD s) K ∧ plM s = (K : Int) - tk (newD s) K by unfold plR plT plM; simp only [hs, if_true]; rw [hK]; exact ⟨rfl, rfl, rfl⟩)
    have hs2 := isSd_iff.1 hs
    have HS := Lib.hid hs2
    have hK2 : K ≤ 200 := by rw [← hK]; exact last_bd hs2
    have HKe := Lib.hid (show endAt (newD s) K by rw [← hK]; exact lastK_end (new_ok hs2))
    have HNd := Lib.hid (fun w => spec_nd s w)
    have HR : Hid (ndR s = (newD s, true)) := Lib.hid (by unfold ndR; rw [if_pos hs])
    rw [HR.out] at HNd
    obtain ⟨a, l, hal⟩ := stp_mk hs2 (k := 0) (fun j hj => absurd hj (Nat.not_lt_zero j))
    have hnl : (newD s).nx = (a : Int) ∧ (newD s).l = l ∧ (newD s).s = s := by
      have h : newD s = ⟨s, a, l⟩ := hal
      rw [h]; exact ⟨rfl, rfl, rfl⟩
    have HAl := Lib.hid hal
    have HNd2 : Hid (∀ w, Calls Try.prog 23 #[.int .i64 s] w fun e w' => ∃ u, e = .returned (.tuple #[dval s a u, .bool true]) ∧ Own w' w.heap.size u l ∧ Below w.heap.size w w') := Lib.hid (fun w => by
      have h := HNd.out w
      simp only [hnl.1, hnl.2.1, hnl.2.2] at h
      exact h)
    clear hs hK hs2 HR HNd hal hnl
    go_enter Try.func48, Try.ntmps48
    go_wp2_with fail
    refine (HNd2.out _).mono ?_
    rintro e w1 ⟨u, rfl, hu, b⟩
    obtain ⟨p, cp, hup, _⟩ := hu.form
    obtain ⟨n, hn⟩ : ∃ n, l.length = n := ⟨_, rfl⟩
    rw [hn] at hup
    subst hup
    have hsz : w.heap.size ≤ w1.heap.size := b.size
    have HI : Hid (PInv w (w1.alloc (.cells #[.int .i64 s, .int .i64 (a : Int), .slice p n cp] 31)) s 0 a n cp l p w1.heap.size K) := Lib.hid
      ⟨DBox.newAt rfl rfl, (hu.alloc _).base (by simp), 
        fun k e => by have := (hu.span k e).2; omega, fun j hj => absurd hj (Nat.not_lt_zero j), b.alloc hsz _, hn, HAl.out, hsz, Nat.zero_le _⟩
    obtain ⟨g, hg⟩ : ∃ g, w1.heap.size = g := ⟨_, rfl⟩
    rw [hg] at HI
    clear hu b hn hsz HAl HNd2
    go_wp2_with fail
    try rw [hg]
    clear hg
    go_loopw [8, 9] (fun tv mv wr => ∃ (k a n cp : Nat) (l : List Cd) (p : Option Addr), tv = .int .i64 (tk (newD s) k) ∧ mv = .int .i64 ((k : Int) - tk (newD s) k) ∧ Hid (PInv w wr s k a n cp l p g K)) (fun tv mv _ => K + 1 - (intOf tv + intOf mv).toNat)
    case atStart => exact ⟨0, a, n, cp, l, p, rfl, rfl, HI⟩
    case round =>
      clear HI
      obtain ⟨k, a, n, cp, l, p, rfl, rfl, HI⟩ := hrel
      obtain ⟨h4, hV, hVo, hNo, hB, hn, hst, hg, hkK⟩ := HI.out
      have hts := tk_sum (new_ok HS.out) k hNo
      have htk0 := hts.2.2.1
      have htkk := hts.2.2.2.1
      clear hts
      have K4 := Lib.hid h4
      obtain ⟨k4a, k4b, k4c, k4d⟩ := h4.cell
      have HV := Lib.hid hV
      have HN := Lib.hid hn
      have HSt := Lib.hid hst
      have hok : (Dl.mk s a l).okP := by rw [← hst]; exact stp_ok (new_ok HS.out) k
      have HOk := Lib.hid hok
      have hn81 : n ≤ 81 := by have h := hok.len81; have h2 : l.length ≤ 81 := h; omega
      have HB := Lib.hid hB
      have HVo := Lib.hid hVo
      have HNo := Lib.hid hNo
      have HkK := Lib.hid hkK
      have Hg := Lib.hid hg
      have HGa := Lib.hid (show g < wr.heap.size from h4.lt)
      obtain ⟨T, hT⟩ : ∃ T, tk (newD s) k = T := ⟨_, rfl⟩
      have HTk := Lib.hid hT
      rw [hT] at htk0 htkk ⊢
      have hk200 : (k : Int) ≤ 200 := by omega
      clear h4 hV hVo hNo hB hn hst hg hkK hok HI hT
      go_wp2_with fail
      refine (l4_over s a l p n cp _ HN.out hn81 HV.out.rd HOk.out.cards HOk.out.2.2.2).mono ?_
      rintro e w4 ⟨rfl, b⟩
      have hb4 := b
      have K4 := Lib.hid (K4.out.below hb4)
      have HB := Lib.hid (HB.out.trans (hb4.mono HB.out.size))
      have HV := Lib.hid (HV.out.below hb4)
      clear k4a k4b k4c k4d
      obtain ⟨k4a, k4b, k4c, k4d⟩ := K4.out.cell
      have HGa := Lib.hid (show g < w4.heap.size from K4.out.lt)
      clear b hb4
      cases hov : overD ⟨s, a, l⟩
      · have HNl := Lib.hid (not_last HKe.out HkK.out (by rw [HSt.out]; exact hov))
        have HNo1 : Hid (∀ j, j < k + 1 → overD (stp (newD s) j) = false) := Lib.hid (fun j hj => by
          rcases Nat.lt_or_ge j k with h | h
          · exact HNo.out j h
          · rw [show j = k by omega, HSt.out]; exact hov)
        obtain ⟨a2, l2, hal⟩ := stp_mk HS.out HNo1.out
        have HAl := Lib.hid hal
        have HSp : Hid (stepD ⟨s, a, l⟩ = ⟨s, a2, l2⟩) := Lib.hid (by have h : stepD (stp (newD s) k) = ⟨s, a2, l2⟩ := hal; rw [HSt.out] at h; exact h)
        have HStep := Lib.hid (fun w => l4_step s a l p n cp w HOk.out HN.out hn81)
        rw [HSp.out] at HStep
        have HTs : Hid (tk (newD s) (k + 1) = T + (if stuckD ⟨s, a, l⟩ = true then 0 else 1)) := Lib.hid (by show tk (newD s) k + _ = _; rw [HTk.out, HSt.out])
        clear hov hal
        go_wp2_with fail
        refine (l4_lines l p n cp _ HN.out hn81 HV.out.rd HOk.out.cards HOk.out.2.2.2).mono ?_
        rintro e w3 ⟨u0, rfl, hu0, b⟩
        obtain ⟨pu0, cu0, rfl, _⟩ := hu0.form
        obtain ⟨m, hm⟩ : ∃ m, (lines l).length = m := ⟨_, rfl⟩
        have HSd := Lib.hid (show stuckD ⟨s, a, l⟩ = decide (m = 0) by unfold stuckD; rw [hm])
        rw [hm]
        have K43 := Lib.hid (K4.out.below b)
        have HV3 := Lib.hid (HV.out.below b)
        have HB3 := Lib.hid (HB.out.trans (b.mono HB.out.size))
        have HGb := Lib.hid (show g < w3.heap.size from K43.out.lt)
        clear hm hu0 b k4a k4b k4c k4d
        obtain ⟨k4a, k4b, k4c, k4d⟩ := K43.out.cell
        by_cases hm0 : 0 < m
        · have hmi : (0 : Int) < (m : Int) := by omega
          have HTn : Hid (tk (newD s) (k + 1) = T + 1) := Lib.hid (by rw [HTs.out, HSd.out]; simp; omega)
          try go_wp2_with fail
          refine (HStep.out _ HV3.out.rd (Own.nil0 HV3.out)).mono ?_
          rintro e w5 ⟨u, rfl, hu, b⟩
          obtain ⟨p2, cp2, hu2, _⟩ := hu.form
          obtain ⟨n2, hn2⟩ : ∃ n2, l2.length = n2 := ⟨_, rfl⟩
          have hu3 : u = .slice p2 n2 cp2 := by rw [hu2]; rw [← hn2]
          clear hu2
          subst hu3
          have hb5 := b
          have K45 := Lib.hid (K43.out.below hb5)
          clear k4a k4b k4c k4d
          obtain ⟨k4a, k4b, k4c, k4d⟩ := K45.out.cell
          have k4f := K45.out.frozen
          have HI5 : Hid (PInv w (((w5.setCell ⟨g, 0, none⟩ (.int .i64 s)).setCell ⟨g, 1, none⟩ (.int .i64 (a2 : Int))).setCell ⟨g, 2, none⟩ (.slice p2 n2 cp2)) s (k + 1) a2 n2 cp2 l2 p2 g K) := Lib.hid (by
            have ho : Off g (.slice p2 n2 cp2) := fun q e => by have := (hu.span q e).1; have := HGb.out; omega
            refine ⟨K45.out.set_ _ _ _,
              (Own.apart (p := ⟨g, 2, none⟩) (Own.apart (p := ⟨g, 1, none⟩) (Own.apart (p := ⟨g, 0, none⟩) hu ho _) ho _) ho _).base (by have := HB3.out.size; omega), ho, HNo1.out,
              (((HB3.out.trans (hb5.mono HB3.out.size)).setCell Hg.out _).setCell Hg.out _).setCell Hg.out _, hn2, HAl.out, Hg.out, HNl.out⟩)
          clear b hb5 hu hn2
          go_wp2_with fail
          go_roundw
          case rel => exact ⟨k + 1, a2, n2, cp2, l2, p2, by rw [HTn.out]<;> go_num, by rw [HTn.out] <;> go_num, HI5⟩
          case measure => simp [intOf]; have := HkK.out; omega
        · obtain rfl : m = 0 := by omega
          have HTn : Hid (tk (newD s) (k + 1) = T) := Lib.hid (by rw [HTs.out, HSd.out]; simp)
          clear hm0
          try go_wp2_with fail
          refine (HStep.out _ HV3.out.rd (Own.nil0 HV3.out)).mono ?_
          rintro e w5 ⟨u, rfl, hu, b⟩
          obtain ⟨p2, cp2, hu2, _⟩ := hu.form
          obtain ⟨n2, hn2⟩ : ∃ n2, l2.length = n2 := ⟨_, rfl⟩
          have hu3 : u = .slice p2 n2 cp2 := by rw [hu2]; rw [← hn2]
          clear hu2
          subst hu3
          have hb5 := b
          have K45 := Lib.hid (K43.out.below hb5)
          clear k4a k4b k4c k4d
          obtain ⟨k4a, k4b, k4c, k4d⟩ := K45.out.cell
          have k4f := K45.out.frozen
          have HI5 : Hid (PInv w (((w5.setCell ⟨g, 0, none⟩ (.int .i64 s)).setCell ⟨g, 1, none⟩ (.int .i64 (a2 : Int))).setCell ⟨g, 2, none⟩ (.slice p2 n2 cp2)) s (k + 1) a2 n2 cp2 l2 p2 g K) := Lib.hid (by
            have ho : Off g (.slice p2 n2 cp2) := fun q e => by have := (hu.span q e).1; have := HGb.out; omega
            refine ⟨K45.out.set_ _ _ _,
              (Own.apart (p := ⟨g, 2, none⟩) (Own.apart (p := ⟨g, 1, none⟩) (Own.apart (p := ⟨g, 0, none⟩) hu ho _) ho _) ho _).base (by have := HB3.out.size; omega), ho, HNo1.out,
              (((HB3.out.trans (hb5.mono HB3.out.size)).setCell Hg.out _).setCell Hg.out _).setCell Hg.out _, hn2, HAl.out, Hg.out, HNl.out⟩)
          clear b hb5 hu hn2
          go_wp2_with fail
          go_roundw
          case rel => exact ⟨k + 1, a2, n2, cp2, l2, p2, by rw [HTn.out]<;> go_num, by rw [HTn.out] <;> go_num, HI5⟩
          case measure => simp [intOf]; have := HkK.out; omega
      · have HEq := Lib.hid (at_last HKe.out HkK.out (by rw [HSt.out]; exact hov))
        clear hov
        have HAl := Lib.hid (show (stp (newD s) K).l = l by rw [← HEq.out, HSt.out])
        have HTk2 := Lib.hid (show tk (newD s) K = T by rw [← HEq.out]; exact HTk.out)
        go_wp2_with fail
        refine (l2_sorted l p n cp _ HN.out (by omega) HV.out.rd HOk.out.cards).mono ?_
        rintro e w5 ⟨u, rfl, hu, b⟩
        have HU := Lib.hid (hu.own.base HB.out.size)
        have HB5 := Lib.hid (HB.out.trans (b.mono HB.out.size))
        clear hu b
        go_wp2_with fail
        try simp only [Exit.inBlock, Exit.then]
        refine bodyPost_ret (v := .tuple #[.int .i64 T, .int .i64 ((k : Int) - T), u, .bool true]) (by simp [results, Try.results48, go_sem]) rfl ?_
        exact ⟨_, ret4 (by rw [HT.out.1, HT.out.2.1, HT.out.2.2, HTk2.out, ← HEq.out]), by rw [HT.out.1, HAl.out]; exact HU.out, HB5.out⟩

end Go.Proofs.Ytghjopgbhodccaa.deal
