/- All Deals of a game: the program's dealsFrom. -/
import Derived.Test.YtghjopgbhodccaaWa
import Derived.WalkMore
import Derived.ScopeJumps
namespace Go.Proofs.Ytghjopgbhodccaa.deal
open Go.RowKit
open cards
set_option linter.unusedVariables false

def lenOf : Value → Nat
  | .slice _ n _ => n
  | _ => 0
/-- What holds at the label: k Deals lie in the row, the next one in block g. -/
def DInv (w w' : World) (s : Int) (k a n cp : Nat) (po : Option Addr) (co : Nat) (rs : List Rw) (l : List Cd) (p : Option Addr) (g K : Nat) : Prop :=
  OwnD w' w.heap.size (.slice po k co) rs ∧ Off g (.slice po k co) ∧ rs.length = k ∧ RowsOk w' w.heap.size g (.slice po k co) rs (newD s) ∧ DBox w' g ⟨31, s, a, .slice p n cp⟩ ∧
  Own w' w.heap.size (.slice p n cp) l ∧ Ap (.slice po k co) (.slice p n cp) ∧ Off g (.slice p n cp) ∧ (∀ j, j < k → overD (stp (newD s) j) = false) ∧ Below w.heap.size w w' ∧ l.length = n ∧ stp (newD s) k = ⟨s, a, l⟩ ∧ w.heap.size ≤ g ∧ k ≤ K
theorem stp_mk {s : Int} (h : 0 ≤ s ∧ s ≤ 65535) {k : Nat} (hno : ∀ j, j < k → overD (stp (newD s) j) = false) : ∃ (a : Nat) (l : List Cd), stp (newD s) k = ⟨s, a, l⟩ := by
  have h1 := (tk_sum (new_ok h) k hno).2.1
  have h2 := (stp_ok (new_ok h) k).2.1.1
  have h3 : (newD s).s = s := rfl
  rw [h3] at h1
  generalize stp (newD s) k = d at h1 h2 ⊢
  obtain ⟨ds, dn, dl⟩ := d
  simp only at h1 h2
  subst h1
  exact ⟨dn.toNat, dl, by rw [Int.toNat_of_nonneg h2]⟩
theorem at_last {s : Int} {k K : Nat} (hK : endAt (newD s) K) (hk : k ≤ K) (ho : overD (stp (newD s) k) = true) : k = K := by
  rcases Nat.lt_or_ge k K with h | h
  · have := hK.2 k h; rw [ho] at this; cases this
  · omega
theorem not_last {s : Int} {k K : Nat} (hK : endAt (newD s) K) (hk : k ≤ K) (ho : overD (stp (newD s) k) = false) : k + 1 ≤ K := by
  rcases Nat.lt_or_ge k K with h | h
  · exact h
  · obtain rfl : k = K := by omega
    rw [hK.1] at ho; cases ho

set_option maxRecDepth 100000 in
set_option maxHeartbeats 8000000 in
theorem deals_from (s : Int) (w : World) (hs : 0 ≤ s ∧ s ≤ 65535) (K : Nat) (hK : endAt (newD s) K) (hK2 : K ≤ 200) :
    Calls Try.prog 86 #[.int .i64 s] w fun e w' => ∃ u rs g, e = .returned u ∧ OwnD w' w.heap.size u rs ∧ rs.length = K + 1 ∧ RowsOk w' w.heap.size g u rs (newD s) ∧ Below w.heap.size w w' := by
  have HS := Lib.hid hs
  have HKe := Lib.hid hK
  clear hs hK
  have HE := Lib.hid (OwnD.empty w w.heap.size (Nat.le_refl _))
  go_enter Try.func86, Try.ntmps86
  go_wp2
  refine wp_scope_jumps 0 (fun a' w' => ∃ (k a n cp : Nat) (po : Option Addr) (co : Nat) (rs : List Rw) (l : List Cd) (p : Option Addr) (g4 : Nat) (u5 u6 u7 u8 u9 u10 u11 u12 u13 u14 u15 u16 u17 : Value), a' = { tmps := #[.int .i64 s, undef, .slice none 0 0, .slice po k co, .pointer (some ⟨g4, 0, none⟩), u5, u6, u7, u8, u9, u10, u11, u12, u13, u14, u15, u16, u17], defers := [] } ∧ Hid (DInv w w' s k a n cp po co rs l p g4 K)) (fun a' _ => K + 1 - lenOf (a'.tmps.getD 3 undef)) rfl ?_ ?_
  · go_wp2_with fail
    refine (new_deal s _ HS.out).mono ?_
    rintro e w1 ⟨u, rfl, hu, b⟩
    obtain ⟨p, cp, hup, _⟩ := hu.form
    obtain ⟨a, l, hal⟩ := stp_mk HS.out (k := 0) (fun j hj => absurd hj (Nat.not_lt_zero j))
    have hnl : (newD s).nx = (a : Int) ∧ (newD s).l = l := by
      have h : newD s = ⟨s, a, l⟩ := hal
      rw [h]; exact ⟨rfl, rfl⟩
    rw [hnl.1]
    rw [hnl.2] at hu hup
    obtain ⟨n, hn⟩ : ∃ n, l.length = n := ⟨_, rfl⟩
    rw [hn] at hup
    subst hup
    have hsz : w.heap.size + 1 ≤ w1.heap.size := by have := b.size; simpa using this
    have HI : Hid (DInv w (w1.alloc (.cells #[.int .i64 s, .int .i64 (a : Int), .slice p n cp] 31)) s 0 a n cp (some ⟨w.heap.size, 0, none⟩) 0 [] l p w1.heap.size K) := Lib.hid
      ⟨(OwnD.below HE.out b).alloc _, fun k e => by have e : some w.heap.size = some k := e; injection e with e; omega, rfl, fun k r h => by simp at h, DBox.newAt rfl rfl, (hu.alloc _).base (by simp), fun k e1 e2 => by have e1 : some w.heap.size = some k := e1; injection e1 with e1; have := (hu.span k e2).1; simp at this; omega,
        fun k e => by have := (hu.span k e).2; omega, fun j hj => absurd hj (Nat.not_lt_zero j), ((Below.refl _ _).alloc (Nat.le_refl _) _).trans (b.mono (by simp)) |>.alloc (by omega) _, hn, hal, by omega, Nat.zero_le _⟩
    clear hu b hal hnl hn hsz
    go_wp2_with fail
    go_step3
    obtain ⟨wr, hwr⟩ : ∃ wr : World, wr = w1.alloc (.cells #[.int .i64 s, .int .i64 (a : Int), .slice p n cp] 31) := ⟨_, rfl⟩
    obtain ⟨g4, hg4⟩ : ∃ g4, g4 = w1.heap.size := ⟨_, rfl⟩
    rw [← hwr, ← hg4] at HI
    rw [← hwr, ← hg4]
    clear hwr hg4 HE
    obtain ⟨k, hk0⟩ : ∃ k : Nat, k = 0 := ⟨_, rfl⟩
    obtain ⟨po, hpo⟩ : ∃ po : Option Addr, po = some ⟨w.heap.size, 0, none⟩ := ⟨_, rfl⟩
    obtain ⟨co, hco⟩ : ∃ co : Nat, co = 0 := ⟨_, rfl⟩
    obtain ⟨rs, hrs⟩ : ∃ rs : List Rw, rs = [] := ⟨_, rfl⟩
    have HIx : Hid (DInv w wr s k a n cp po co rs l p g4 K) := by rw [hk0, hpo, hco, hrs]; exact HI
    obtain ⟨vo, hvo⟩ : ∃ vo : Value, vo = .slice (some ⟨w.heap.size, 0, none⟩) 0 0 := ⟨_, rfl⟩
    have hvo2 : vo = .slice po k co := by rw [hvo, hk0, hpo, hco]
    rw [← hvo]
    rw [hvo2]
    clear hvo hvo2 hk0 hpo hco hrs HI
    have HI := HIx
    clear HIx
    obtain ⟨hO, hOff, hLn, hRs, h4, hV, hAp, hVo, hNo, hB, hn, hst, hg, hkK⟩ := HI.out
    have K4 := Lib.hid h4
    have HOf := Lib.hid hOff
    obtain ⟨k4a, k4b, k4c, k4d⟩ := h4.cell
    have HB := Lib.hid hB
    have HO := Lib.hid hO
    have HLb := Lib.hid (show rs.length ≤ 1000000 by omega)
    have HGa := Lib.hid (show g4 < wr.heap.size from h4.lt)
    clear hO hOff hLn hRs h4 hV hAp hVo hNo hB hn hst hg hkK
    go_wp2_with (at_builtin; refine append_D rfl (.tmp 8) (.tmp 10) rfl w.heap.size (.slice po k co) rs ⟨s, a, .slice p n cp⟩ p n cp rfl _ _ rfl rfl rfl HO.out HLb.out HB.out.size ?_; intro v1 w3 hO1 hB1 hG1 hA1; have K43 := Lib.hid (DBox.past K4.out hG1 HOf.out); clear k4a k4b k4c k4d; obtain ⟨k4a, k4b, k4c, k4d⟩ := K43.out.cell)
    obtain ⟨hO, hOff, hLn, hRs, h4, hV, hAp, hVo, hNo, hB, hn, hst, hg, hkK⟩ := HI.out
    obtain ⟨p1, c1, hv1, _⟩ := hO1.form
    have hl1 : (rs ++ [(⟨s, a, .slice p n cp⟩ : Rw)]).length = k + 1 := by rw [List.length_append, hLn]; rfl
    rw [hl1] at hv1
    subst hv1
    have hV3 := hV.past hG1 hAp
    have hAp3 : Ap (.slice p1 (k + 1) c1) (.slice p n cp) := hAp.next (fun q hq => Nat.lt_succ_of_lt (hV.lt q hq)) hA1
    have hOff3 : Off g4 (.slice p1 (k + 1) c1) := fun q e => by
      rcases hA1 with h | h
      · rw [h] at e; exact hOff q e
      · rw [h] at e; injection e with e; have := HGa.out; omega
    have hRow : RowOk w3 w.heap.size g4 (.slice p1 (k + 1) c1) ⟨s, a, .slice p n cp⟩ (stp (newD s) rs.length) := by
      rw [hLn, hst]
      exact ⟨rfl, rfl, ⟨p, cp, by rw [hn]⟩, hV3, hAp3, hVo⟩
    have hRs3 : RowsOk w3 w.heap.size g4 (.slice p1 (k + 1) c1) (rs ++ [⟨s, a, .slice p n cp⟩]) (newD s) := RowsOk.snoc (fun q r h => (hRs q r h).past hG1 hA1) hRow
    have HR3 := Lib.hid hRs3
    have HO3 := Lib.hid hO1
    have HOff3 := Lib.hid hOff3
    have HV3 := Lib.hid hV3
    have HL1 := Lib.hid hl1
    have HVo := Lib.hid hVo
    have HB3 := Lib.hid (hB.trans hB1)
    have HSt := Lib.hid hst
    have HN := Lib.hid hn
    have HNo := Lib.hid hNo
    have HkK := Lib.hid hkK
    have Hg := Lib.hid hg
    have hok : (Dl.mk s a l).okP := by rw [← hst]; exact stp_ok (new_ok HS.out) k
    have HOk := Lib.hid hok
    have hn81 : n ≤ 81 := by have h := hok.len81; have h2 : l.length ≤ 81 := h; omega
    have HGb := Lib.hid (show g4 < w3.heap.size from K43.out.lt)
    clear hO hOff hLn hRs h4 hV hAp hVo hNo hB hn hst hg hkK hV3 hAp3 hOff3 hRow hRs3 hO1 hB1 hG1 hA1 hl1 hok HI K4 HB HO HLb HOf
    try go_wp2_with fail
    refine (is_over s a l p n cp _ HN.out hn81 HV3.out.rd HOk.out.cards).mono ?_
    rintro e w4 ⟨rfl, b⟩
    have hb4 := b
    have K44 := Lib.hid (K43.out.below hb4)
    have HB4 := Lib.hid (HB3.out.trans (hb4.mono HB3.out.size))
    have HO4 := Lib.hid (HO3.out.below hb4)
    have HV4 := Lib.hid (HV3.out.below hb4)
    have HR4 : Hid (RowsOk w4 w.heap.size g4 (.slice p1 (k + 1) c1) (rs ++ [⟨s, a, .slice p n cp⟩]) (newD s)) := Lib.hid (fun q r h => (HR3.out q r h).below hb4)
    clear k4a k4b k4c k4d
    obtain ⟨k4a, k4b, k4c, k4d⟩ := K44.out.cell
    have k4f := K44.out.frozen
    have HGc := Lib.hid (show g4 < w4.heap.size from K44.out.lt)
    clear b hb4 HB3 HO3 HV3 HR3 K43
    cases hov : overD ⟨s, a, l⟩
    · have HNl := Lib.hid (not_last HKe.out HkK.out (by rw [HSt.out]; exact hov))
      have HNo1 : Hid (∀ j, j < k + 1 → overD (stp (newD s) j) = false) := Lib.hid (fun j hj => by
        rcases Nat.lt_or_ge j k with h | h
        · exact HNo.out j h
        · rw [show j = k by omega, HSt.out]; exact hov)
      obtain ⟨a2, l2, hal⟩ := stp_mk HS.out HNo1.out
      have HAl := Lib.hid hal
      have HSp : Hid (stepD ⟨s, a, l⟩ = ⟨s, a2, l2⟩) := Lib.hid (by have h : stepD (stp (newD s) k) = ⟨s, a2, l2⟩ := hal; rw [HSt.out] at h; exact h)
      have HStep := Lib.hid (fun w => step_of s a l p n cp w HOk.out HN.out hn81)
      rw [HSp.out] at HStep
      clear hov hal
      go_wp2_with fail
      refine (HStep.out _ HV4.out.rd (Own.nil0 HV4.out)).mono ?_
      rintro e w5 ⟨u, rfl, hu, b⟩
      obtain ⟨p2, cp2, hu2, _⟩ := hu.form
      obtain ⟨n2, hn2⟩ : ∃ n2, l2.length = n2 := ⟨_, rfl⟩
      have hu3 : u = .slice p2 n2 cp2 := by rw [hu2]; rw [← hn2]
      clear hu2
      subst hu3
      have hb5 := b
      have K45 := Lib.hid (K44.out.below hb5)
      obtain ⟨k4a, k4b, k4c, k4d⟩ := K45.out.cell
      have k4f := K45.out.frozen
      have HI5 : Hid (DInv w (((w5.setCell ⟨g4, 0, none⟩ (.int .i64 s)).setCell ⟨g4, 1, none⟩ (.int .i64 (a2 : Int))).setCell ⟨g4, 2, none⟩ (.slice p2 n2 cp2)) s (k + 1) a2 n2 cp2 p1 c1 (rs ++ [⟨s, a, .slice p n cp⟩]) l2 p2 g4 K) := Lib.hid (by
        have ho : Off g4 (.slice p2 n2 cp2) := fun q e => by have := (hu.span q e).1; have := HGc.out; omega
        refine ⟨OwnD.apart (p := ⟨g4, 2, none⟩) (OwnD.apart (p := ⟨g4, 1, none⟩) (OwnD.apart (p := ⟨g4, 0, none⟩) (HO4.out.below hb5) HOff3.out _) HOff3.out _) HOff3.out _, HOff3.out, HL1.out, fun q r h => (((HR4.out q r h).below hb5).set 0 _).set 1 _ |>.set 2 _, K45.out.set_ _ _ _,
          (Own.apart (p := ⟨g4, 2, none⟩) (Own.apart (p := ⟨g4, 1, none⟩) (Own.apart (p := ⟨g4, 0, none⟩) hu ho _) ho _) ho _).base (by have := HB4.out.size; omega), fun q e1 e2 => by have h1 := (HO4.out.span q e1).2; have h2 := (hu.span q e2).1; omega, ho, HNo1.out,
          (((HB4.out.trans (hb5.mono HB4.out.size)).setCell Hg.out _).setCell Hg.out _).setCell Hg.out _, hn2, HAl.out, Hg.out, HNl.out⟩)
      clear b hb5 hu hn2
      go_wp2_with fail
      go_step3
      exact ⟨rfl, _, _, _, _, _, _, _, _, _, _, _, _, _, _, _, _, _, _, _, _, _, _, _, rfl, HI5⟩
    · have HEq := Lib.hid (at_last HKe.out HkK.out (by rw [HSt.out]; exact hov))
      clear hov
      go_wp2_with fail
      try simp only [Exit.jump]
      go_ret
      exact ⟨.slice p1 (k + 1) c1, rs ++ [⟨s, a, .slice p n cp⟩], g4, rfl, HO4.out, by rw [HL1.out, HEq.out], HR4.out, HB4.out⟩
  · rintro a' wr ⟨k, a, n, cp, po, co, rs, l, p, g4, u5, u6, u7, u8, u9, u10, u11, u12, u13, u14, u15, u16, u17, rfl, HI⟩
    clear HE
    obtain ⟨hO, hOff, hLn, hRs, h4, hV, hAp, hVo, hNo, hB, hn, hst, hg, hkK⟩ := HI.out
    have K4 := Lib.hid h4
    have HOf := Lib.hid hOff
    obtain ⟨k4a, k4b, k4c, k4d⟩ := h4.cell
    have HB := Lib.hid hB
    have HO := Lib.hid hO
    have HLb := Lib.hid (show rs.length ≤ 1000000 by omega)
    have HGa := Lib.hid (show g4 < wr.heap.size from h4.lt)
    clear hO hOff hLn hRs h4 hV hAp hVo hNo hB hn hst hg hkK
    go_wp2_with (at_builtin; refine append_D rfl (.tmp 8) (.tmp 10) rfl w.heap.size (.slice po k co) rs ⟨s, a, .slice p n cp⟩ p n cp rfl _ _ rfl rfl rfl HO.out HLb.out HB.out.size ?_; intro v1 w3 hO1 hB1 hG1 hA1; have K43 := Lib.hid (DBox.past K4.out hG1 HOf.out); clear k4a k4b k4c k4d; obtain ⟨k4a, k4b, k4c, k4d⟩ := K43.out.cell)
    obtain ⟨hO, hOff, hLn, hRs, h4, hV, hAp, hVo, hNo, hB, hn, hst, hg, hkK⟩ := HI.out
    obtain ⟨p1, c1, hv1, _⟩ := hO1.form
    have hl1 : (rs ++ [(⟨s, a, .slice p n cp⟩ : Rw)]).length = k + 1 := by rw [List.length_append, hLn]; rfl
    rw [hl1] at hv1
    subst hv1
    have hV3 := hV.past hG1 hAp
    have hAp3 : Ap (.slice p1 (k + 1) c1) (.slice p n cp) := hAp.next (fun q hq => Nat.lt_succ_of_lt (hV.lt q hq)) hA1
    have hOff3 : Off g4 (.slice p1 (k + 1) c1) := fun q e => by
      rcases hA1 with h | h
      · rw [h] at e; exact hOff q e
      · rw [h] at e; injection e with e; have := HGa.out; omega
    have hRow : RowOk w3 w.heap.size g4 (.slice p1 (k + 1) c1) ⟨s, a, .slice p n cp⟩ (stp (newD s) rs.length) := by
      rw [hLn, hst]
      exact ⟨rfl, rfl, ⟨p, cp, by rw [hn]⟩, hV3, hAp3, hVo⟩
    have hRs3 : RowsOk w3 w.heap.size g4 (.slice p1 (k + 1) c1) (rs ++ [⟨s, a, .slice p n cp⟩]) (newD s) := RowsOk.snoc (fun q r h => (hRs q r h).past hG1 hA1) hRow
    have HR3 := Lib.hid hRs3
    have HO3 := Lib.hid hO1
    have HOff3 := Lib.hid hOff3
    have HV3 := Lib.hid hV3
    have HL1 := Lib.hid hl1
    have HVo := Lib.hid hVo
    have HB3 := Lib.hid (hB.trans hB1)
    have HSt := Lib.hid hst
    have HN := Lib.hid hn
    have HNo := Lib.hid hNo
    have HkK := Lib.hid hkK
    have Hg := Lib.hid hg
    have hok : (Dl.mk s a l).okP := by rw [← hst]; exact stp_ok (new_ok HS.out) k
    have HOk := Lib.hid hok
    have hn81 : n ≤ 81 := by have h := hok.len81; have h2 : l.length ≤ 81 := h; omega
    have HGb := Lib.hid (show g4 < w3.heap.size from K43.out.lt)
    clear hO hOff hLn hRs h4 hV hAp hVo hNo hB hn hst hg hkK hV3 hAp3 hOff3 hRow hRs3 hO1 hB1 hG1 hA1 hl1 hok HI K4 HB HO HLb HOf
    try go_wp2_with fail
    refine (is_over s a l p n cp _ HN.out hn81 HV3.out.rd HOk.out.cards).mono ?_
    rintro e w4 ⟨rfl, b⟩
    have hb4 := b
    have K44 := Lib.hid (K43.out.below hb4)
    have HB4 := Lib.hid (HB3.out.trans (hb4.mono HB3.out.size))
    have HO4 := Lib.hid (HO3.out.below hb4)
    have HV4 := Lib.hid (HV3.out.below hb4)
    have HR4 : Hid (RowsOk w4 w.heap.size g4 (.slice p1 (k + 1) c1) (rs ++ [⟨s, a, .slice p n cp⟩]) (newD s)) := Lib.hid (fun q r h => (HR3.out q r h).below hb4)
    clear k4a k4b k4c k4d
    obtain ⟨k4a, k4b, k4c, k4d⟩ := K44.out.cell
    have k4f := K44.out.frozen
    have HGc := Lib.hid (show g4 < w4.heap.size from K44.out.lt)
    clear b hb4 HB3 HO3 HV3 HR3 K43
    cases hov : overD ⟨s, a, l⟩
    · have HNl := Lib.hid (not_last HKe.out HkK.out (by rw [HSt.out]; exact hov))
      have HNo1 : Hid (∀ j, j < k + 1 → overD (stp (newD s) j) = false) := Lib.hid (fun j hj => by
        rcases Nat.lt_or_ge j k with h | h
        · exact HNo.out j h
        · rw [show j = k by omega, HSt.out]; exact hov)
      obtain ⟨a2, l2, hal⟩ := stp_mk HS.out HNo1.out
      have HAl := Lib.hid hal
      have HSp : Hid (stepD ⟨s, a, l⟩ = ⟨s, a2, l2⟩) := Lib.hid (by have h : stepD (stp (newD s) k) = ⟨s, a2, l2⟩ := hal; rw [HSt.out] at h; exact h)
      have HStep := Lib.hid (fun w => step_of s a l p n cp w HOk.out HN.out hn81)
      rw [HSp.out] at HStep
      clear hov hal
      go_wp2_with fail
      refine (HStep.out _ HV4.out.rd (Own.nil0 HV4.out)).mono ?_
      rintro e w5 ⟨u, rfl, hu, b⟩
      obtain ⟨p2, cp2, hu2, _⟩ := hu.form
      obtain ⟨n2, hn2⟩ : ∃ n2, l2.length = n2 := ⟨_, rfl⟩
      have hu3 : u = .slice p2 n2 cp2 := by rw [hu2]; rw [← hn2]
      clear hu2
      subst hu3
      have hb5 := b
      have K45 := Lib.hid (K44.out.below hb5)
      obtain ⟨k4a, k4b, k4c, k4d⟩ := K45.out.cell
      have k4f := K45.out.frozen
      have HI5 : Hid (DInv w (((w5.setCell ⟨g4, 0, none⟩ (.int .i64 s)).setCell ⟨g4, 1, none⟩ (.int .i64 (a2 : Int))).setCell ⟨g4, 2, none⟩ (.slice p2 n2 cp2)) s (k + 1) a2 n2 cp2 p1 c1 (rs ++ [⟨s, a, .slice p n cp⟩]) l2 p2 g4 K) := Lib.hid (by
        have ho : Off g4 (.slice p2 n2 cp2) := fun q e => by have := (hu.span q e).1; have := HGc.out; omega
        refine ⟨OwnD.apart (p := ⟨g4, 2, none⟩) (OwnD.apart (p := ⟨g4, 1, none⟩) (OwnD.apart (p := ⟨g4, 0, none⟩) (HO4.out.below hb5) HOff3.out _) HOff3.out _) HOff3.out _, HOff3.out, HL1.out, fun q r h => (((HR4.out q r h).below hb5).set 0 _).set 1 _ |>.set 2 _, K45.out.set_ _ _ _,
          (Own.apart (p := ⟨g4, 2, none⟩) (Own.apart (p := ⟨g4, 1, none⟩) (Own.apart (p := ⟨g4, 0, none⟩) hu ho _) ho _) ho _).base (by have := HB4.out.size; omega), fun q e1 e2 => by have h1 := (HO4.out.span q e1).2; have h2 := (hu.span q e2).1; omega, ho, HNo1.out,
          (((HB4.out.trans (hb5.mono HB4.out.size)).setCell Hg.out _).setCell Hg.out _).setCell Hg.out _, hn2, HAl.out, Hg.out, HNl.out⟩)
      clear b hb5 hu hn2
      go_wp2_with fail
      go_step3
      exact ⟨rfl, ⟨_, _, _, _, _, _, _, _, _, _, _, _, _, _, _, _, _, _, _, _, _, _, _, rfl, HI5⟩, by simp [lenOf]; have := HkK.out; omega⟩
    · have HEq := Lib.hid (at_last HKe.out HkK.out (by rw [HSt.out]; exact hov))
      clear hov
      go_wp2_with fail
      try simp only [Exit.jump]
      go_ret
      exact ⟨.slice p1 (k + 1) c1, rs ++ [⟨s, a, .slice p n cp⟩], g4, rfl, HO4.out, by rw [HL1.out, HEq.out], HR4.out, HB4.out⟩
end Go.Proofs.Ytghjopgbhodccaa.deal
