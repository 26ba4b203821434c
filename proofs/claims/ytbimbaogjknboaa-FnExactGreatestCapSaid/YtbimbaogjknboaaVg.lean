/- The visits of all caps, with impl.greatestIn$1. -/
import Derived.Test.YtbimbaogjknboaaVb
namespace Go.Proofs.Ytbimbaogjknboaa.cards
open Go.RowKit
set_option linter.unusedVariables false

set_option maxRecDepth 100000 in
set_option maxHeartbeats 8000000 in
theorem visit_greatest (σ : Type) (f : σ → List Int → σ) (J : World → σ → (Nat → Prop) → Prop) (q : Value) (w0 : World)
    (hJ1 : ∀ w s S, J w s S → ∀ j, S j → w0.heap.size ≤ j ∧ j < w.heap.size)
    (hJ2 : ∀ w w' s S T, J w s S → Turn T w w' → (∀ j, S j → ¬ T j) → J w' s S)
    (hC : ∀ w s S (ps : List Int) (g m c : Nat), J w s S → Below w0.heap.size w0 w → Rd w (some ⟨g, 0, none⟩) (ints ps) → ps.length = m → m ≤ 1000 → Calls Try.prog 100 #[.slice (some ⟨g, 0, none⟩) m c, q] w fun e w' => e = .returned (.tuple #[]) ∧ ∃ S', J w' (f s ps) S' ∧ Turn S w w' ∧ ∀ j, S' j → S j ∨ w.heap.size ≤ j)
    (l : List Cd) (p : Option Addr) (n cp : Nat) (hn : l.length = n) (hl : n ≤ 900) (hr : Rd w0 p (flat l)) (hok : l.all Cd.ok = true) (hs : sorted l) :
    ∀ (d k : Nat) (K : Int) (ps : List Int) (g m c : Nat) (s : σ) (S : Nat → Prop) (w : World), K = (k : Int) → n = k + d → ps.length = m → Good l ps k → J w s S → OwnI w w0.heap.size (.slice (some ⟨g, 0, none⟩) m c) ps → ¬ S g → Below w0.heap.size w0 w →
      Calls Try.prog 77 #[.slice p n cp, .slice (some ⟨g, 0, none⟩) m c, .int .i64 K, .func (.func 100) #[] #[q]] w fun e w' => e = .returned (.tuple #[]) ∧ ∃ S', J w' ((tl l d ps).foldl f (f s ps)) S' ∧ Turn (fun j => S j ∨ j = g) w w' ∧ (∀ j, S' j → S j ∨ w.heap.size ≤ j) ∧ OwnI w' w0.heap.size (.slice (some ⟨g, 0, none⟩) m c) ps := by
  have HN := Lib.hid hn
  have HR0 := Lib.hid hr
  have HK := Lib.hid hok
  have HS := Lib.hid hs
  have HJ1 := Lib.hid hJ1
  have HJ2 := Lib.hid hJ2
  have HC := Lib.hid hC
  clear hn hr hok hs hJ1 hJ2 hC
  intro d
  induction d using Nat.strongRecOn with
  | ind d ih =>
  intro k K ps g m c s S w hK hd hm hG hJ hO hg hB
  have IH := Lib.hid ih
  have HG := Lib.hid hG
  have HM := Lib.hid hm
  have HJ := Lib.hid hJ
  have HO := Lib.hid hO
  have Hg := Lib.hid hg
  have HB := Lib.hid hB
  have HZ := Lib.hid hB.size
  have Hgl : Hid (g < w.heap.size) := Lib.hid (hO.lt g rfl)
  have hmn : m ≤ 900 := by have := hG.le; omega
  have HNK := Lib.hid hd
  have hkn : k ≤ n := by omega
  clear ih hG hJ hO hg hB hd hm
  subst hK
  obtain ⟨t, htg⟩ : ∃ t : σ, (tl l d ps).foldl f (f s ps) = t := ⟨_, rfl⟩
  rw [htg]
  have HT := Lib.hid htg
  clear htg
  go_enter Try.func77, Try.ntmps77
  go_wp2_with fail
  refine (HC.out w s S ps g m c HJ.out HB.out HO.out.rd HM.out (by omega)).mono ?_
  rintro e w1 ⟨rfl, S1, hj1, ht1, hs1⟩
  have HB1 := Lib.hid (Turn.below HB.out HZ.out ht1 (fun j hj => (HJ1.out _ _ _ HJ.out j hj).1))
  have HO1 : Hid (OwnI w1 w0.heap.size (.slice (some ⟨g, 0, none⟩) m c) ps) := Lib.hid (ht1.ownI HO.out (fun x hx => by
    have : g = x := by simpa [Value.ownBlock] using hx
    rw [← this]; exact Hg.out))
  have Hj1 := Lib.hid hj1
  have Ht1 := Lib.hid ht1
  have Hs1 := Lib.hid hs1
  have Hz1 := Lib.hid ht1.size
  have HZ1 := Lib.hid HB1.out.size
  have Hg1 : Hid (¬ S1 g) := Lib.hid (fun h => by
    rcases Hs1.out g h with h | h
    · exact Hg.out h
    · have := Hgl.out; omega)
  clear hj1 ht1 hs1
  try go_end0
  go_wp2_with fail
  refine (cards_at l ps p (some ⟨g, 0, none⟩) n cp m c _ HN.out (by omega) HM.out (by omega) (HR0.out.below HB1.out) HO1.out.rd HG.out.ins (by rw [HG.out.len, HM.out])).mono ?_
  rintro e w2 ⟨vt, rfl, hvt, b2⟩
  have Hb2 := Lib.hid b2
  have HB2 := Lib.hid (Turn.below HB1.out HZ1.out (Turn.of_below b2) (fun j h => h.elim))
  have HO2 := Lib.hid (HO1.out.below b2)
  have Hj2 := Lib.hid (HJ2.out _ _ _ _ _ Hj1.out (Turn.of_below b2) (fun j _ h => h))
  have Ht2 : Hid (Turn (fun j => S j ∨ j = g) w w2) := Lib.hid ((Ht1.out.weak (fun j _ h => .inl h)).and_below b2)
  have Hz2 := Lib.hid b2.size
  have Hvt := Lib.hid (World.ownsRow.lt hvt)
  have HVT := Lib.hid (hvt.base HZ1.out)
  have hpl : (pick l ps).length = m := by rw [HG.out.len, HM.out]
  obtain ⟨pt, ct, rfl, _, _, _⟩ := hvt.form
  rw [hpl] at HVT Hvt ⊢
  have HPL := Lib.hid hpl
  clear b2 hvt hpl
  go_wp2_with fail
  go_loopw [9] (fun i wr => ∃ (j : Nat) (s' : σ) (S' : Nat → Prop), k ≤ j ∧ j ≤ n ∧ i = .int .i64 j ∧ Hid (J wr s' S') ∧ Hid ((tl l (n - j) ps).foldl f s' = t) ∧ Hid (OwnI wr w0.heap.size (.slice (some ⟨g, 0, none⟩) m c) ps) ∧ Hid (¬ S' g) ∧ Hid (Turn (fun j => S j ∨ j = g) w wr) ∧ Hid (∀ j, S' j → S j ∨ w.heap.size ≤ j) ∧ Hid (Own wr w0.heap.size (.slice pt m ct) (pick l ps)) ∧ Hid (∀ x, (Value.slice pt m ct).ownBlock = some x → ¬ S' x) ∧ Hid (w2.heap.size ≤ wr.heap.size)) (fun i _ => n - (intOf i).toNat)
  case atStart => exact ⟨k, f s ps, S1, Nat.le_refl _, hkn, rfl, Hj2, Lib.hid (by rw [show n - k = d by have := HNK.out; omega]; exact HT.out), HO2, Hg1, Ht2, Hs1, HVT, Lib.hid (fun x hx h => by
      have := (Hvt.out x hx).1
      have := (HJ1.out _ _ _ Hj1.out x h).2
      omega), Lib.hid (Nat.le_refl _)⟩
  case round =>
    clear HO2 Hj2 Ht2 HVT HB2 HO1
    obtain ⟨j, s', S', hkj, hjn, rfl, Hj, HTg, HO2, Hg2, Ht2, Hs2, HVT, Hv2, Hzr⟩ := hrel
    have HBr := Lib.hid (Turn.below HB.out HZ.out Ht2.out (fun x hx => hx.elim (fun h => (HJ1.out _ _ _ HJ.out x h).1) (fun e => by rw [e]; exact (HO.out.span g rfl).1)))
    have HZr := Lib.hid HBr.out.size
    by_cases hlt : j < n
    · have HR := Lib.hid (HR0.out.below HBr.out)
      obtain ⟨b, o, x, rfl, hb, hx, c0, c1, c2, c3⟩ := HR.out.card (k := j) (by rw [HN.out]; exact hlt)
      have HXa := Lib.hid hx
      have HX := Lib.hid (ok_at HK.out hx)
      have m0 : (0 : Int) ≤ (j : Int) := by omega
      have m1 : (j : Int) < (n : Int) := by omega
      obtain ⟨d', hd'⟩ : ∃ d', n = j + (d' + 1) := ⟨n - (j + 1), by omega⟩
      have HLd := Lib.hid (show l.length = j + (d' + 1) by rw [HN.out]; exact hd')
      have hnj : n - j = d' + 1 := by omega
      have hnj1 : n - (j + 1) = d' := by omega
      have hdd : d' < d := by have := HNK.out; omega
      rw [hnj] at HTg
      have HHd := Lib.hid hd'
      have Hnj1 := Lib.hid hnj1
      have hft : fits l ps j = !decide (0 < thr (pick l ps) x m) := by unfold fits; rw [hx]; simp only; rw [HPL.out]
      have HP := fun w' (hr : Rd w' pt (flat (pick l ps))) => makes_line (pick l ps) x pt m ct w' HPL.out (by omega) hr HG.out.ok HX.out HG.out.sort
      obtain ⟨y, hy⟩ : ∃ y, decide (0 < thr (pick l ps) x m) = y := ⟨_, rfl⟩
      rw [hy] at HP hft
      have HP2 := Lib.hid HP
      have HF := Lib.hid hft
      clear hx hy HP hft hnj hnj1 hd'
      go_wp2_with fail
      refine (HP2.out _ HVT.out.rd).mono ?_
      rintro e w3 ⟨rfl, b3⟩
      have Hb3 := Lib.hid b3
      have Hj3 := Lib.hid (HJ2.out _ _ _ _ _ Hj.out (Turn.of_below b3) (fun j _ h => h))
      have HO3 := Lib.hid (HO2.out.below b3)
      have HV3 := Lib.hid (HVT.out.below b3)
      have Ht3 := Lib.hid (Ht2.out.and_below b3)
      have Hz3 := Lib.hid b3.size
      clear b3 c0 c1 c2 c3
      cases y
      · have HE := Lib.hid (tl_yes HLd.out (show fits l ps j = true from HF.out))
        go_wp2_with (at_builtin; refine append_keep rfl (.tmp 31) (.tmp 33) rfl w0.heap.size (.slice (some ⟨g, 0, none⟩) m c) ps (j : Int) w3 _ rfl rfl rfl HO3.out (by have := HM.out; omega) (by have := HZr.out; have := Hz3.out; omega) ?_; intro v4 w4 hO4 hK4 hB4 hG4 hat4)
        have Hat := Lib.hid hat4
        have HO4 := Lib.hid hO4
        have HK4 := Lib.hid hK4
        have HG4 := Lib.hid hG4
        clear hO4 hK4 hB4 hG4 hat4
        obtain ⟨p4, c4, rfl, _, _, hp4⟩ := HO4.out.form
        have hl4 : (ps ++ [(j : Int)]).length = m + 1 := by rw [List.length_append, HM.out]; rfl
        obtain ⟨g4, rfl, hg4, _⟩ := hp4 (by omega)
        rw [hl4] at HO4 Hat ⊢
        have HL4 := Lib.hid hl4
        have Hat2 : Hid (g4 = g ∨ g4 = w3.heap.size + 1) := Lib.hid (by simpa [Value.ownBlock] using Hat.out)
        clear hl4 hp4 hg4
        have Hg4 : Hid (¬ S' g4) := Lib.hid (fun h => by
          rcases Hat2.out with e | e
          · rw [e] at h; exact Hg2.out h
          · have := (HJ1.out _ _ _ Hj3.out g4 h).2; omega)
        have HT4 := Lib.hid (Turn.of_grown HG4.out)
        have Hj4 := Lib.hid (HJ2.out _ _ _ _ _ Hj3.out HT4.out (fun x hx h => by
          have : x = g := by simpa [Value.ownBlock] using h
          rw [this] at hx; exact Hg2.out hx))
        have HB4 := Lib.hid (Turn.below (Turn.below HBr.out HZr.out (Turn.of_below Hb3.out) (fun _ h => h.elim)) (by have := HZr.out; have := Hz3.out; omega) HT4.out (fun x h => by
          have : x = g := by simpa [Value.ownBlock] using h
          rw [this]; exact (HO.out.span g rfl).1))
        go_wp2_with fail
        refine (IH.out d' hdd (j + 1) _ (ps ++ [(j : Int)]) g4 (m + 1) c4 s' S' w4 (by simp) (by have := HHd.out; omega) HL4.out ((HG.out.mono hkj).snoc HS.out HK.out HXa.out) Hj4.out HO4.out Hg4.out HB4.out).mono ?_
        rintro e w5 ⟨rfl, S5, hj5, ht5, hs5, ho5⟩
        have Hj5 := Lib.hid hj5
        have Ht5 := Lib.hid ht5
        have Hs5 := Lib.hid hs5
        have Ho5 := Lib.hid ho5
        have Hz5 := Lib.hid ht5.size
        have Hz4 := Lib.hid HG4.out.size
        clear hj5 ht5 hs5 ho5
        try go_end0
        go_wp2_with fail
        go_roundw
        case rel => exact ⟨j + 1, _, S5, by omega, by omega, by go_num, Hj5, Lib.hid (by
            have h1 := HTg.out
            rw [HE.out, List.foldl_append, List.foldl_cons] at h1
            rw [Hnj1.out]; exact h1),
          Lib.hid (OwnI.back HK4.out HO4.out Ho5.out Ht5.out (fun hne h => h.elim Hg2.out hne) HM.out),
          Lib.hid (fun h => by
            rcases Hs5.out g h with h | h
            · exact Hg2.out h
            · have := Hgl.out; have := Hz1.out; have := Hz2.out; have := Hzr.out; have := Hz3.out; have := Hz4.out; omega),
          Lib.hid (((Ht3.out.then_ HT4.out (fun x _ h => .inr (by simpa [Value.ownBlock] using h)))).then_ Ht5.out (fun x hx h => by
            rcases h with h | h
            · rcases Hs2.out x h with h | h
              · exact .inl h
              · omega
            · rcases Hat2.out with e | e
              · exact .inr (by rw [h, e])
              · have := Hz1.out; have := Hz2.out; have := Hzr.out; have := Hz3.out; omega)),
          Lib.hid (fun x h => by
            rcases Hs5.out x h with h | h
            · exact Hs2.out x h
            · right; have := Hz1.out; have := Hz2.out; have := Hzr.out; have := Hz3.out; have := Hz4.out; omega),
          Lib.hid (Ht5.out.own (HT4.out.own HV3.out (fun x hx h => by
              have e : x = g := by simpa [Value.ownBlock] using h
              have := (Hvt.out x hx).1; have := Hgl.out; have := Hz1.out; omega)) (fun x hx h => by
              rcases h with h | h
              · exact Hv2.out x hx h
              · have h6 := Hvt.out x hx
                rcases Hat2.out with e | e
                · have := Hgl.out; have := Hz1.out; omega
                · have := Hzr.out; have := Hz3.out; omega)),
          Lib.hid (fun x hx h => by
            rcases Hs5.out x h with h | h
            · exact Hv2.out x hx h
            · have h6 := Hvt.out x hx
              have := Hzr.out; have := Hz3.out; have := Hz4.out; omega),
          Lib.hid (by have := Hzr.out; have := Hz3.out; have := Hz4.out; have := Hz5.out; omega)⟩
        case measure => simp [intOf]; omega
      · have HE := Lib.hid (tl_no HLd.out (show fits l ps j = false from HF.out))
        go_wp2_with fail
        go_roundw
        case rel => exact ⟨j + 1, s', S', by omega, by omega, by go_num, Hj3, Lib.hid (by rw [Hnj1.out, ← HE.out]; exact HTg.out), HO3, Hg2, Ht3, Hs2, HV3, Hv2, Lib.hid (by have := Hzr.out; have := Hz3.out; omega)⟩
        case measure => simp [intOf]; omega
    · obtain rfl : j = n := by omega
      have HE := Lib.hid (show s' = t by
        have h1 := HTg.out
        rw [Nat.sub_self] at h1
        exact h1)
      go_wp2_with fail
      go_end0
      exact ⟨rfl, S', by rw [← HE.out]; exact Hj.out, Ht2.out, Hs2.out, HO2.out⟩
end Go.Proofs.Ytbimbaogjknboaa.cards
