/- How many cards lie there in each Deal of a game: the model. -/
import Derived.Test.YtghjopgbhodccaaWd
namespace Go.Proofs.Ytghjopgbhodccaa.deal
open Go.RowKit
open cards
set_option linter.unusedVariables false

theorem OwnI.apart {w : World} {B : Nat} {v : Value} {l : List Int} (h : OwnI w B v l) {p : Addr} (hp : ∀ g, v.ownBlock = some g → g ≠ p.block) (u : Value) : OwnI (w.setCell p u) B v l := by
  obtain ⟨hl, h0 | ⟨g, cap, cur, e, hb, hg, r⟩⟩ := h
  · exact ⟨hl, .inl h0⟩
  · subst e
    exact ⟨hl, .inr ⟨g, cap, cur, rfl, hb, (Below.heap_setCell w p u g (hp g rfl)).trans hg, r⟩⟩
/-- What holds at each round: the next Deal in block g, k sizes in o. -/
def ZInv (w w' : World) (s : Int) (k a n cp : Nat) (o : Value) (l : List Cd) (p : Option Addr) (g K : Nat) : Prop :=
  OwnI w' w.heap.size o (szs s k) ∧ Off g o ∧ DBox w' g ⟨31, s, a, .slice p n cp⟩ ∧
  Own w' w.heap.size (.slice p n cp) l ∧ Ap o (.slice p n cp) ∧ Off g (.slice p n cp) ∧ (∀ j, j < k → overD (stp (newD s) j) = false) ∧ Below w.heap.size w w' ∧ l.length = n ∧ stp (newD s) k = ⟨s, a, l⟩ ∧ w.heap.size ≤ g ∧ k ≤ K

set_option maxRecDepth 100000 in
set_option maxHeartbeats 4000000 in
theorem spec_z (s : Int) (w : World) :
    Calls Try.prog 50 #[.int .i64 s] w fun e w' => ∃ u, e = .returned (.tuple #[u, .bool (zR s).2]) ∧ OwnI w' w.heap.size u (zR s).1 ∧ Below w.heap.size w w' := by
  have HE := Lib.hid (OwnI.empty w w.heap.size (Nat.le_refl _))
  cases hs : isSd s
  · have HT := Lib.hid (show zR s = ([], false) by unfold zR; rw [if_neg (by simp [hs])])
    have HNd := Lib.hid (fun w => spec_nd s w)
    have HR : Hid (ndR s = (⟨0, 0, []⟩, false)) := Lib.hid (by unfold ndR; rw [if_neg (by simp [hs])])
    rw [HR.out] at HNd
    clear hs HR
    go_enter Try.func50, Try.ntmps50
    go_wp2_with fail
    refine (HNd.out _).mono ?_
    rintro e w1 ⟨u, rfl, hu, b⟩
    obtain ⟨pu, cu, rfl, _⟩ := hu.form
    have HO := Lib.hid (HE.out.below b)
    clear hu
    have Sw1 := Lib.hid b.size
    have HB := Lib.hid (chain0 (w := w) (by repeat (first | with_reducible exact Below.refl _ _ | with_reducible exact HB.out | with_reducible apply Below.drew | with_reducible apply bdN | with_reducible refine Below.alloc ?_ (by first | exact Nat.le_refl _ | (simp; done) | (simp; omega) | (have := HB.out.size; simp at *; omega)) _ | with_reducible refine Below.setCell ?_ (by first | exact Nat.le_refl _ | (simp; done) | (simp; omega) | (have := HB.out.size; simp at *; omega)) _)) b)
    clear b
    go_wp2_with fail
    go_ret2
    exact ⟨_, ret_two (by rw [HT.out]), by rw [HT.out]; exact HO.out.alloc _, by repeat (first | with_reducible exact Below.refl _ _ | with_reducible exact HB.out | with_reducible apply Below.drew | with_reducible apply bdN | with_reducible refine Below.alloc ?_ (by first | exact Nat.le_refl _ | (simp; done) | (simp; omega) | (have := HB.out.size; simp at *; omega)) _ | with_reducible refine Below.setCell ?_ (by first | exact Nat.le_refl _ | (simp; done) | (simp; omega) | (have := HB.out.size; simp at *; omega)) _)⟩
  · obtain ⟨K, hK⟩ : ∃ K, lastK (newD s) = K := ⟨_, rfl⟩
    have HT := Lib.hid (show zR s = (szs s (K + 1), true) by unfold zR; rw [if_pos hs, hK])
    have hs2 := isSd_iff.1 hs
    have HS := Lib.hid hs2
    have hK2 : K ≤ 200 := by rw [← hK]; exact last_bd hs2
    have HKe := Lib.hid (show endAt (newD s) K by rw [← hK]; exact lastK_end (new_ok hs2))
    have HNd := Lib.hid (fun w => spec_nd s w)
    have HR : Hid (ndR s = (newD s, true)) := Lib.hid (by unfold ndR; rw [if_pos hs])
    rw [HR.out] at HNd
    obtain ⟨a, l, hal⟩ := stp_mk hs2 (k := 0) (fun j hj => absurd hj (Nat.not_lt_zero j))
    have hnl : (newD s).nx = (a : Int) ∧ (newD s).l = l ∧ (newD s).s = s := by
      have h : newD s = ⟨s, a, l⟩ := hal
      rw [h]; exact ⟨rfl, rfl, rfl⟩
    have HAl := Lib.hid hal
    have HNd2 : Hid (∀ w, Calls Try.prog 23 #[.int .i64 s] w fun e w' => ∃ u, e = .returned (.tuple #[dval s a u, .bool true]) ∧ Own w' w.heap.size u l ∧ Below w.heap.size w w') := Lib.hid (fun w => by
      have h := HNd.out w
      simp only [hnl.1, hnl.2.1, hnl.2.2] at h
      exact h)
    clear hs hK hs2 HR HNd hal hnl
    go_enter Try.func50, Try.ntmps50
    go_wp2_with fail
    refine (HNd2.out _).mono ?_
    rintro e w1 ⟨u, rfl, hu, b⟩
    obtain ⟨p, cp, hup, _⟩ := hu.form
    obtain ⟨n, hn⟩ : ∃ n, l.length = n := ⟨_, rfl⟩
    rw [hn] at hup
    subst hup
    have hsz : w.heap.size + 1 ≤ w1.heap.size := by have := b.size; simpa using this
    have HI : Hid (ZInv w (w1.alloc (.cells #[.int .i64 s, .int .i64 (a : Int), .slice p n cp] 31)) s 0 a n cp (.slice (some ⟨w.heap.size, 0, none⟩) 0 0) l p w1.heap.size K) := Lib.hid
      ⟨(OwnI.below HE.out b).alloc _, fun k e => by have e : some w.heap.size = some k := e; injection e with e; omega, DBox.newAt rfl rfl, (hu.alloc _).base (by simp), fun k e1 e2 => by have e1 : some w.heap.size = some k := e1; injection e1 with e1; have := (hu.span k e2).1; simp at this; omega,
        fun k e => by have := (hu.span k e).2; omega, fun j hj => absurd hj (Nat.not_lt_zero j), ((Below.refl _ _).alloc (Nat.le_refl _) _).trans (b.mono (by simp)) |>.alloc (by omega) _, hn, HAl.out, by omega, Nat.zero_le _⟩
    obtain ⟨g, hg⟩ : ∃ g, w1.heap.size = g := ⟨_, rfl⟩
    rw [hg] at HI
    clear hu b hn hsz HAl HE HNd2
    go_wp2_with fail
    try rw [hg]
    clear hg
    go_loopw [4] (fun o wr => ∃ (k a n cp : Nat) (l : List Cd) (p : Option Addr), Hid (ZInv w wr s k a n cp o l p g K)) (fun o _ => K + 1 - lenOf o)
    case atStart => exact ⟨0, a, n, cp, l, p, HI⟩
    case round =>
      clear HI
      obtain ⟨k, a, n, cp, l, p, HI⟩ := hrel
      obtain ⟨hO, hOff, h4, hV, hAp, hVo, hNo, hB, hn, hst, hg, hkK⟩ := HI.out
      obtain ⟨po, co, hpo, _⟩ := hO.form
      rw [szs_len] at hpo
      subst hpo
      have K4 := Lib.hid h4
      obtain ⟨k4a, k4b, k4c, k4d⟩ := h4.cell
      have HV := Lib.hid hV
      have HN := Lib.hid hn
      have HSt := Lib.hid hst
      have hok : (Dl.mk s a l).okP := by rw [← hst]; exact stp_ok (new_ok HS.out) k
      have HOk := Lib.hid hok
      have hn81 : n ≤ 81 := by have h := hok.len81; have h2 : l.length ≤ 81 := h; omega
      have HB := Lib.hid hB
      have HO := Lib.hid hO
      have HOf := Lib.hid hOff
      have HAp := Lib.hid hAp
      have HVo := Lib.hid hVo
      have HNo := Lib.hid hNo
      have HkK := Lib.hid hkK
      have Hg := Lib.hid hg
      have HGa := Lib.hid (show g < wr.heap.size from h4.lt)
      clear hO hOff h4 hV hAp hVo hNo hB hn hst hg hkK hok HI
      go_wp2_with fail
      refine (l4_over s a l p n cp _ HN.out hn81 HV.out.rd HOk.out.cards HOk.out.2.2.2).mono ?_
      rintro e w4 ⟨rfl, b⟩
      have hb4 := b
      have K4 := Lib.hid (K4.out.below hb4)
      have HB := Lib.hid (HB.out.trans (hb4.mono HB.out.size))
      have HO := Lib.hid (HO.out.below hb4)
      have HV := Lib.hid (HV.out.below hb4)
      clear k4a k4b k4c k4d
      obtain ⟨k4a, k4b, k4c, k4d⟩ := K4.out.cell
      have HGa := Lib.hid (show g < w4.heap.size from K4.out.lt)
      have HSn := Lib.hid (szs_snoc s k)
      rw [HSt.out] at HSn
      have HSn2 : Hid (szs s (k + 1) = szs s k ++ [(n : Int)]) := Lib.hid (by rw [HSn.out]; simp only [HN.out])
      have HLs := Lib.hid (szs_len s k)
      clear b hb4
      cases hov : overD ⟨s, a, l⟩
      · have HNl := Lib.hid (not_last HKe.out HkK.out (by rw [HSt.out]; exact hov))
        have HNo1 : Hid (∀ j, j < k + 1 → overD (stp (newD s) j) = false) := Lib.hid (fun j hj => by
          rcases Nat.lt_or_ge j k with h | h
          · exact HNo.out j h
          · rw [show j = k by omega, HSt.out]; exact hov)
        obtain ⟨a2, l2, hal⟩ := stp_mk HS.out HNo1.out
        have HAl := Lib.hid hal
        have HSp : Hid (stepD ⟨s, a, l⟩ = ⟨s, a2, l2⟩) := Lib.hid (by have h : stepD (stp (newD s) k) = ⟨s, a2, l2⟩ := hal; rw [HSt.out] at h; exact h)
        have HStep := Lib.hid (fun w => l4_step s a l p n cp w HOk.out HN.out hn81)
        rw [HSp.out] at HStep
        clear hov hal
        go_wp2_with (at_builtin; refine append_int_at rfl (.tmp 19) (.tmp 23) rfl w.heap.size _ (szs s k) (n : Int) _ _ rfl rfl rfl HO.out (by have := HLs.out; have := HkK.out; omega) HB.out.size ?_; intro v1 w3 hO1 hB1 hG1 hA1; have K43 := Lib.hid (DBox.past K4.out hG1 HOf.out); clear k4a k4b k4c k4d; obtain ⟨k4a, k4b, k4c, k4d⟩ := K43.out.cell)
        obtain ⟨p1, c1, hv1, _⟩ := hO1.form
        have hl1 : (szs s k ++ [(n : Int)]).length = k + 1 := by rw [List.length_append, HLs.out]; rfl
        rw [hl1] at hv1
        subst hv1
        have HV3 := Lib.hid (HV.out.past hG1 HAp.out)
        have HAp3 : Hid (Ap (.slice p1 (k + 1) c1) (.slice p n cp)) := Lib.hid (HAp.out.next (fun q hq => Nat.lt_succ_of_lt (HV.out.lt q hq)) hA1)
        have HOf3 : Hid (Off g (.slice p1 (k + 1) c1)) := Lib.hid (fun q e => by
          rcases hA1 with h | h
          · rw [h] at e; exact HOf.out q e
          · rw [h] at e; injection e with e; have := HGa.out; omega)
        rw [← HSn2.out] at hO1
        have HO3 := Lib.hid hO1
        have HB3 := Lib.hid (HB.out.trans hB1)
        have HGb := Lib.hid (show g < w3.heap.size from K43.out.lt)
        clear hO1 hB1 hG1 hA1 hl1
        try go_wp2_with fail
        refine (HStep.out _ HV3.out.rd (Own.nil0 HV3.out)).mono ?_
        rintro e w5 ⟨u, rfl, hu, b⟩
        obtain ⟨p2, cp2, hu2, _⟩ := hu.form
        obtain ⟨n2, hn2⟩ : ∃ n2, l2.length = n2 := ⟨_, rfl⟩
        have hu3 : u = .slice p2 n2 cp2 := by rw [hu2]; rw [← hn2]
        clear hu2
        subst hu3
        have hb5 := b
        have K45 := Lib.hid (K43.out.below hb5)
        clear k4a k4b k4c k4d
        obtain ⟨k4a, k4b, k4c, k4d⟩ := K45.out.cell
        have k4f := K45.out.frozen
        have HI5 : Hid (ZInv w (((w5.setCell ⟨g, 0, none⟩ (.int .i64 s)).setCell ⟨g, 1, none⟩ (.int .i64 (a2 : Int))).setCell ⟨g, 2, none⟩ (.slice p2 n2 cp2)) s (k + 1) a2 n2 cp2 (.slice p1 (k + 1) c1) l2 p2 g K) := Lib.hid (by
          have ho : Off g (.slice p2 n2 cp2) := fun q e => by have := (hu.span q e).1; have := HGb.out; omega
          refine ⟨OwnI.apart (p := ⟨g, 2, none⟩) (OwnI.apart (p := ⟨g, 1, none⟩) (OwnI.apart (p := ⟨g, 0, none⟩) (HO3.out.below hb5) HOf3.out _) HOf3.out _) HOf3.out _, HOf3.out, K45.out.set_ _ _ _,
            (Own.apart (p := ⟨g, 2, none⟩) (Own.apart (p := ⟨g, 1, none⟩) (Own.apart (p := ⟨g, 0, none⟩) hu ho _) ho _) ho _).base (by have := HB3.out.size; omega), fun q e1 e2 => by have h1 := (HO3.out.span q e1).2; have h2 := (hu.span q e2).1; omega, ho, HNo1.out,
            (((HB3.out.trans (hb5.mono HB3.out.size)).setCell Hg.out _).setCell Hg.out _).setCell Hg.out _, hn2, HAl.out, Hg.out, HNl.out⟩)
        clear b hb5 hu hn2
        go_wp2_with fail
        go_roundw
        case rel => exact ⟨k + 1, a2, n2, cp2, l2, p2, HI5⟩
        case measure => simp [lenOf]; have := HkK.out; omega
      · have HEq := Lib.hid (at_last HKe.out HkK.out (by rw [HSt.out]; exact hov))
        clear hov
        go_wp2_with (at_builtin; refine append_int_at rfl (.tmp 27) (.tmp 31) rfl w.heap.size _ (szs s k) (n : Int) _ _ rfl rfl rfl HO.out (by have := HLs.out; have := HkK.out; omega) HB.out.size ?_; intro v1 w3 hO1 hB1 hG1 hA1)
        rw [← HSn2.out] at hO1
        go_ret2
        exact ⟨_, ret_two (by rw [HT.out]), by rw [HT.out, ← HEq.out]; exact hO1, HB.out.trans hB1⟩

end Go.Proofs.Ytghjopgbhodccaa.deal
