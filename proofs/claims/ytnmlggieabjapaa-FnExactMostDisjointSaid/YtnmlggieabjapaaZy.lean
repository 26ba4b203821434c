/- All pickings visited, by a closure with 1 captured variables. -/
import Derived.Test.YtnmlggieabjapaaZx
import Derived.Deep.RegionHeld3
namespace Go.Proofs.Ytnmlggieabjapaa.parting
open Go.RowKit
open cards maps
set_option linter.unusedVariables false

set_option maxRecDepth 100000 in
set_option maxHeartbeats 8000000 in
theorem visit_pick1 (σ : Type) (f : σ → List A3 → σ) (B gv : Nat) (J : World → σ → Prop) (fn : FuncId) (q : Value)
    (hJ1 : ∀ w s, J w s → B ≤ w.heap.size ∧ gv < w.heap.size) (hJ2 : ∀ w w' s, J w s → Below w.heap.size w w' → J w' s)
    (hcf : ∀ (args : Array Value) (w : World), (callFunc fn args).run Try.prog w = .ok (.enter fn args) w)
    (hC : ∀ w s (ps : List A3) (g m c : Nat), J w s → PsO B gv w g m c ps → ps.length = m → m ≤ 1000000 → Calls Try.prog fn #[.slice (some ⟨g, 0, none⟩) m c, q] w fun e w' => e = .returned (.tuple #[]) ∧ J w' (f s ps) ∧ Turn (fun j => j = gv) w w') :
    ∀ (n : Nat) (next ps : List A3) (g m c : Nat) (pn : Option Addr) (cn : Nat) (s : σ) (w : World), next.length = n → ps.length = m → m + n ≤ 100000 → m ≤ c → n ≤ cn → J w s → PsO B gv w g m c ps → RdN gv w pn (A3.flat next) →
      Calls Try.prog 98 #[.slice (some ⟨g, 0, none⟩) m c, .slice pn n cn, .func (.func fn) #[] #[q]] w fun e w' => e = .returned (.tuple #[]) ∧ J w' ((tls next ps).foldl f (f s ps)) ∧ Turn (fun j => j = gv) w w' := by
  have HJ1 := Lib.hid hJ1
  have HJ2 := Lib.hid hJ2
  have HC := Lib.hid hC
  clear hJ1 hJ2 hC
  intro n
  induction n using Nat.strongRecOn with
  | ind n ih =>
  intro next ps g m c pn cn s w hn hm hmn hmc hcn hj hps hnx
  have IH := Lib.hid ih
  have HN := Lib.hid hn
  have HM := Lib.hid hm
  have HJ := Lib.hid hj
  have HP := Lib.hid hps
  have HX := Lib.hid hnx
  obtain ⟨t, ht⟩ : ∃ t : σ, (tls next ps).foldl f (f s ps) = t := ⟨_, rfl⟩
  rw [ht]
  have HT := Lib.hid ht
  clear ih hn hm hj hps hnx ht
  go_enter Try.func98, Try.ntmps98
  go_wp2_with fail
  refine (HC.out w s ps g m c HJ.out HP.out HM.out (by omega)).mono ?_
  rintro e w1 ⟨rfl, hj1, ht1⟩
  have HJa := Lib.hid hj1
  have HTu := Lib.hid ht1
  have HPa := Lib.hid (HP.out.turn ht1)
  have HXa := Lib.hid (HX.out.turn ht1)
  clear hj1 ht1
  try go_end0
  go_wp2_with fail
  go_loopw [6, 7, 8, 14] (fun _ _ _ i wr => ∃ (k : Nat) (s' : σ), k ≤ n ∧ i = .int .i64 k ∧ Hid (J wr s') ∧ Hid ((tls (next.drop k) ps).foldl f s' = t) ∧ Hid (PsO B gv wr g m c ps) ∧ Hid (RdN gv wr pn (A3.flat next)) ∧ Hid (Turn (fun j => j = gv) w wr)) (fun _ _ _ i _ => n - (intOf i).toNat)
  case atStart => exact ⟨0, f s ps, Nat.zero_le _, rfl, HJa, HT, HPa, HXa, HTu⟩
  case round =>
    clear HJa HPa HXa HTu
    obtain ⟨k, s', hk, rfl, HJa, HTg, HPa, HXa, HTu⟩ := hrel
    by_cases hlt : k < n
    · obtain ⟨b, o, x, rfl, hb, hx, c0, c1, c2⟩ := HXa.out.1.aA3 (k := k) (by rw [HN.out]; exact hlt)
      have m0 : (0 : Int) ≤ (k : Int) := by omega
      have m1 : (k : Int) < (n : Int) := by omega
      have hd : next.drop k = x :: next.drop (k + 1) := by
        obtain ⟨hk', e⟩ := List.getElem?_eq_some_iff.1 hx
        rw [← e]
        exact List.drop_eq_getElem_cons hk'
      rw [hd] at HTg
      have HRd := Lib.hid (HXa.out.drop (k + 1))
      have HLd := Lib.hid (show (next.drop (k + 1)).length = n - (k + 1) by rw [List.length_drop, HN.out])
      clear hx hd
      have HAp := fun w' (hw : Rd w' (some ⟨g, 0, none⟩) (A3.flat ps)) => is_apart ps x (some ⟨g, 0, none⟩) m c w' HM.out (by omega) hw
      obtain ⟨fr, hfr⟩ : ∃ fr, free ps x = fr := ⟨_, rfl⟩
      rw [hfr] at HAp
      have HFr := Lib.hid hfr
      replace HAp := Lib.hid HAp
      clear hfr
      have HB0 : Hid (Below wr.heap.size wr (wr.alloc (A3.obj x))) := Lib.hid ((Below.refl _ _).alloc (Nat.le_refl _) _)
      have HK0 : Hid (TBox (wr.alloc (A3.obj x)) wr.heap.size x) := Lib.hid (TBox.newAt rfl rfl)
      go_wp2_with fail
      refine (HAp.out _ (HPa.out.rd.below HB0.out)).mono ?_
      rintro e w2 ⟨rfl, b2⟩
      have HBc : Hid (Below wr.heap.size wr w2) := Lib.hid (HB0.out.trans (b2.mono HB0.out.size))
      have HK2 := Lib.hid (HK0.out.below b2)
      have HJb := Lib.hid (HJ2.out _ _ _ HJa.out HBc.out)
      have HPb := Lib.hid (HPa.out.below HBc.out)
      have HXb := Lib.hid (HXa.out.below HBc.out)
      have HRb := Lib.hid (HRd.out.below HBc.out)
      have HTb := Lib.hid (Turn.and_ HTu.out HBc.out)
      clear b2 HK0 HB0 c0 c1 c2 HJa HPa HXa HRd HTu HBc hb
      obtain ⟨d0, d1, d2, _⟩ := HK2.out.cell
      cases fr
      · rw [tls_no HFr.out] at HTg
        go_wp2_with fail
        go_roundw
        case rel => exact ⟨k + 1, s', by omega, by go_num, HJb, HTg, HPb, HXb, HTb⟩
        case measure => simp [intOf]; omega
      · have HTg2 : Hid ((tls (next.drop (k + 1)) ps).foldl f ((tls (next.drop (k + 1)) (ps ++ [x])).foldl f (f s' (ps ++ [x]))) = t) := Lib.hid (by
          have h := HTg.out
          rw [tls_yes HFr.out, List.foldl_append, List.foldl_cons] at h
          exact h)
        have hlx : (ps ++ [x]).length = m + 1 := by rw [List.length_append, HM.out]; rfl
        have HLx := Lib.hid hlx
        have m2 : (0 : Int) ≤ (m : Int) := by omega
        have m3 : (m : Int) ≤ 100000 := by omega
        have m4 : (n : Int) ≤ 100000 := by omega
        have m5 : (k : Int) + 1 ≤ (n : Int) := by omega
        have m6 : (n : Int) ≤ (cn : Int) := by omega
        clear hlx HTg
        have hz2 := HJ1.out _ _ HJb.out
        have HZ2 := Lib.hid hz2
        clear hz2
        by_cases hcn : cn = k + 1
        · have hnk : n = k + 1 := by omega
          have HRc : Hid (RdN gv w2 (some ⟨b, o, none⟩) (A3.flat (next.drop (k + 1)))) := Lib.hid (by
            rw [List.drop_of_length_le (by rw [HN.out]; omega)]
            exact ⟨fun hp => by simp [A3.flat] at hp, fun hp => by simp [A3.flat] at hp⟩)
          have hcn3 : (cn = k + 1) = True := eq_true hcn
          clear HRb hnk hcn
          go_wp2_with fail
          go_region_held3 (fun w' => w'.cell? ⟨wr.heap.size, 0, none⟩ = some (.int .i64 x.a) ∧ w'.cell? ⟨wr.heap.size, 1, none⟩ = some (.int .i64 x.b) ∧ w'.cell? ⟨wr.heap.size, 2, none⟩ = some (.int .i64 x.c)) (first | exact ⟨d0, d1, d2⟩ | go_keep) (first
            | (refine step_fresh3 rfl (.tmp 27) (.tmp 29) rfl ps g 0 m w2.heap.size x rfl rfl HM.out (by omega) ?_ ?_ ?_
               · first | exact HPb.out.rd.alloc _ | exact (HPb.out.rd.drew).alloc _ | exact (HPb.out.rd.alloc _).drew
               · first | exact TBox.newAt rfl rfl | exact TBox.drew (TBox.newAt rfl rfl)
               intro g5 c5 w5 ho5 hb5
               obtain ⟨_, _, e5, hc5, hr5, _⟩ := ho5.form
               injection e5 with e5p e5n e5c
               have HB5 : Hid (Below w2.heap.size w2 w5) := Lib.hid (by refine Below.trans ?_ (hb5.mono (by simp)); first | exact (Below.refl _ _).alloc (Nat.le_refl _) _ | exact ((Below.refl _ _).drew).alloc (Nat.le_refl _) _)
               have HG5 : Hid (g5 ≠ gv) := Lib.hid (by have h := (ho5.span g5 rfl).1; have h2 := HZ2.out.2; simp at h; omega)
               have HC5 : Hid (m + 1 ≤ c5) := Lib.hid (by rw [e5c]; rw [HLx.out] at hc5; exact hc5)
               have HP5 : Hid (PsO B gv w5 g5 (m + 1) c5 (ps ++ [x])) := Lib.hid ⟨OwnA3.base ho5 (by have := HZ2.out.1; simp; omega), HG5.out⟩
               have d0 := (HB5.out.cell (p := ⟨wr.heap.size, 0, none⟩) (HK2.out.lt)).trans d0
               have d1 := (HB5.out.cell (p := ⟨wr.heap.size, 1, none⟩) (HK2.out.lt)).trans d1
               have d2 := (HB5.out.cell (p := ⟨wr.heap.size, 2, none⟩) (HK2.out.lt)).trans d2
               clear ho5 hb5 hc5 hr5 e5p e5n e5c))
          all_goals
            go_wp2_with fail
            refine (IH.out (n - (k + 1)) (by omega) (next.drop (k + 1)) (ps ++ [x]) g5 (m + 1) c5 _ _ s' w5 (by rw [HLd.out]) HLx.out (by omega) HC5.out (by omega) (HJ2.out _ _ _ HJb.out HB5.out) HP5.out (HRc.out.below HB5.out)).mono ?_
            rintro e w6 ⟨rfl, hj6, ht6⟩
            have HJ6 := Lib.hid hj6
            have HP6 := Lib.hid ((HPb.out.below HB5.out).turn ht6)
            have HX6 := Lib.hid ((HXb.out.below HB5.out).turn ht6)
            have HT6 := Lib.hid (Turn.then1 (Turn.and_ HTb.out HB5.out) ht6)
            clear hj6 ht6
            try go_end0
            go_wp2_with fail
            go_roundw
            case rel => exact ⟨k + 1, _, by omega, by go_num, HJ6, HTg2, HP6, HX6, HT6⟩
            case measure => simp [intOf]; omega
        · have hcn2 : ¬ cn = k + 1 := hcn
          have HRc := HRb
          clear hcn
          go_wp2_with fail
          go_region_held3 (fun w' => w'.cell? ⟨wr.heap.size, 0, none⟩ = some (.int .i64 x.a) ∧ w'.cell? ⟨wr.heap.size, 1, none⟩ = some (.int .i64 x.b) ∧ w'.cell? ⟨wr.heap.size, 2, none⟩ = some (.int .i64 x.c)) (first | exact ⟨d0, d1, d2⟩ | go_keep) (first
            | (refine step_fresh3 rfl (.tmp 27) (.tmp 29) rfl ps g 0 m w2.heap.size x rfl rfl HM.out (by omega) ?_ ?_ ?_
               · first | exact HPb.out.rd.alloc _ | exact (HPb.out.rd.drew).alloc _ | exact (HPb.out.rd.alloc _).drew
               · first | exact TBox.newAt rfl rfl | exact TBox.drew (TBox.newAt rfl rfl)
               intro g5 c5 w5 ho5 hb5
               obtain ⟨_, _, e5, hc5, hr5, _⟩ := ho5.form
               injection e5 with e5p e5n e5c
               have HB5 : Hid (Below w2.heap.size w2 w5) := Lib.hid (by refine Below.trans ?_ (hb5.mono (by simp)); first | exact (Below.refl _ _).alloc (Nat.le_refl _) _ | exact ((Below.refl _ _).drew).alloc (Nat.le_refl _) _)
               have HG5 : Hid (g5 ≠ gv) := Lib.hid (by have h := (ho5.span g5 rfl).1; have h2 := HZ2.out.2; simp at h; omega)
               have HC5 : Hid (m + 1 ≤ c5) := Lib.hid (by rw [e5c]; rw [HLx.out] at hc5; exact hc5)
               have HP5 : Hid (PsO B gv w5 g5 (m + 1) c5 (ps ++ [x])) := Lib.hid ⟨OwnA3.base ho5 (by have := HZ2.out.1; simp; omega), HG5.out⟩
               have d0 := (HB5.out.cell (p := ⟨wr.heap.size, 0, none⟩) (HK2.out.lt)).trans d0
               have d1 := (HB5.out.cell (p := ⟨wr.heap.size, 1, none⟩) (HK2.out.lt)).trans d1
               have d2 := (HB5.out.cell (p := ⟨wr.heap.size, 2, none⟩) (HK2.out.lt)).trans d2
               clear ho5 hb5 hc5 hr5 e5p e5n e5c))
          all_goals
            go_wp2_with fail
            refine (IH.out (n - (k + 1)) (by omega) (next.drop (k + 1)) (ps ++ [x]) g5 (m + 1) c5 _ _ s' w5 (by rw [HLd.out]) HLx.out (by omega) HC5.out (by omega) (HJ2.out _ _ _ HJb.out HB5.out) HP5.out (HRc.out.below HB5.out)).mono ?_
            rintro e w6 ⟨rfl, hj6, ht6⟩
            have HJ6 := Lib.hid hj6
            have HP6 := Lib.hid ((HPb.out.below HB5.out).turn ht6)
            have HX6 := Lib.hid ((HXb.out.below HB5.out).turn ht6)
            have HT6 := Lib.hid (Turn.then1 (Turn.and_ HTb.out HB5.out) ht6)
            clear hj6 ht6
            try go_end0
            go_wp2_with fail
            go_roundw
            case rel => exact ⟨k + 1, _, by omega, by go_num, HJ6, HTg2, HP6, HX6, HT6⟩
            case measure => simp [intOf]; omega
    · obtain rfl : k = n := by omega
      have HE := Lib.hid (show s' = t by
        have h := HTg.out
        rw [List.drop_of_length_le (by rw [HN.out]; exact Nat.le_refl _)] at h
        exact h)
      go_wp2_with fail
      go_end0
      exact ⟨rfl, by rw [← HE.out]; exact HJa.out, HTu.out⟩
end Go.Proofs.Ytnmlggieabjapaa.parting
