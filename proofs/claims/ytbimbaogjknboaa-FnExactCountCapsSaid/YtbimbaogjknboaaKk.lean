/- CountCaps: the model's count. -/
import Derived.Test.YtbimbaogjknboaaKj
namespace Go.Proofs.Ytbimbaogjknboaa.cards
open Go.RowKit
set_option linter.unusedVariables false

def lc (l : List Cd) (d : Nat) (ps : List Int) (r : Nat) : Int := if r = 0 then 1 else lp l d ps r
theorem lp_le {l : List Cd} : ∀ (d : Nat) (ps : List Int) (m : Nat), lp l d ps m ≤ ((2 ^ d : Nat) : Int)
  | 0, _, _ => by simp [lp]
  | d + 1, ps, m => by
    have h1 := lp_le (l := l) d ps m
    have h2 := lp_le (l := l) d (ps ++ [((l.length - (d + 1) : Nat) : Int)]) (m - 1)
    have h3 : 1 ≤ 2 ^ d := Nat.one_le_two_pow
    rw [lp, Nat.pow_succ]
    split <;> (try split) <;> omega
theorem lc_bd {l : List Cd} (d : Nat) (ps : List Int) (r : Nat) (hd : d ≤ 15) : 0 ≤ lc l d ps r ∧ lc l d ps r ≤ 32768 := by
  have h1 := lp_le (l := l) d ps r
  have h2 := lp_nonneg (l := l) d ps r
  have h3 : 2 ^ d ≤ 2 ^ 15 := Nat.pow_le_pow_right (by omega) hd
  unfold lc
  split <;> omega
theorem lp_go {l : List Cd} {ps : List Int} {k d r : Nat} (hk : l.length = k + (d + 1)) (h : fits l ps k = true) : lp l (d + 1) ps (r + 1) = lc l d (ps ++ [(k : Int)]) r + lp l d ps (r + 1) := by
  rw [lp_yes hk h]
  unfold lc
  by_cases hr : r = 0
  · subst hr; rfl
  · rw [if_neg hr, if_neg (show ¬ r + 1 = 1 by omega), Nat.add_sub_cancel]
theorem caps_lc {l : List Cd} (N : Nat) : caps l (N : Int) = lc l l.length [] N := by
  unfold caps lc
  by_cases h : N = 0
  · subst h
    rw [if_pos rfl]
    have e : cf ((0 : Nat) : Int) 0 [] = 1 := rfl
    rw [e]
    exact cf_long 0 (by simp) 1
  · rw [if_neg h]
    have e : cf (N : Int) 0 [] = 0 := by unfold cf; rw [if_neg (by simp; omega)]
    rw [e, cf_all N l.length [] 0 (Nat.le_refl _) (by simp; omega)]
    simp

set_option maxRecDepth 100000 in
set_option maxHeartbeats 8000000 in
theorem l3_count (l : List Cd) (p : Option Addr) (n cp : Nat) (hn : l.length = n) (hl : n ≤ 15) (hok : l.all Cd.ok = true) (hs : sorted l) :
    ∀ (d k : Nat) (K : Int) (ps : List Int) (g m c r : Nat) (R : Int) (w : World), K = (k : Int) → R = (r : Int) → r ≤ 15 → n = k + d → ps.length = m → Good l ps k → Rd w p (flat l) → Rd w (some ⟨g, 0, none⟩) (ints ps) →
      Calls Try.prog 76 #[.slice p n cp, .slice (some ⟨g, 0, none⟩) m c, .int .i64 K, .int .i64 R] w fun e w' => e = .returned (.int .i64 (lc l d ps r)) ∧ Below w.heap.size w w' := by
  have HN := Lib.hid hn
  have HK := Lib.hid hok
  have HS := Lib.hid hs
  clear hn hok hs
  intro d
  induction d using Nat.strongRecOn with
  | ind d ih =>
  intro k K ps g m c r R w hK hRr hr15 hd hm hG hR hV
  have IH := Lib.hid ih
  have HG := Lib.hid hG
  have HM := Lib.hid hm
  have HR0 := Lib.hid hR
  have HV0 := Lib.hid hV
  have HNK := Lib.hid hd
  have hkn : k ≤ n := by omega
  have hmk : m ≤ k := by have := hG.le; omega
  clear ih hG hm hR hV hd
  subst hK
  cases r with
  | zero =>
    obtain rfl : R = 0 := by simpa using hRr
    clear hRr hr15
    go_enter Try.func76, Try.ntmps76
    go_wp2_with fail
    go_ret
    exact ⟨rfl, Below.refl _ _⟩
  | succ r =>
  have ht0 := lc_bd (l := l) d ps (r + 1) (by have := HNK.out; omega)
  obtain ⟨t, htg⟩ : ∃ t, lc l d ps (r + 1) = t := ⟨_, rfl⟩
  rw [htg] at ht0 ⊢
  have HT : Hid (lp l d ps (r + 1) = t) := Lib.hid (by rw [← htg]; unfold lc; rw [if_neg (by omega)])
  obtain ⟨t0, t1⟩ := ht0
  have r1 : 1 ≤ R := by omega
  have r2 : R ≤ 15 := by omega
  have hrb : (R == 0) = false := beq_eq_false_iff_ne.2 (by omega)
  have HRr := Lib.hid hRr
  clear htg hRr
  go_enter Try.func76, Try.ntmps76
  go_wp2_with fail
  go_loopw [9, 10] (fun u i wr => ∃ (j : Nat) (s : Int), k ≤ j ∧ j ≤ n ∧ i = .int .i64 j ∧ u = .int .i64 s ∧ 0 ≤ s ∧ s ≤ 32768 ∧ Hid (s + lp l (n - j) ps (r + 1) = t) ∧ Hid (Below w.heap.size w wr)) (fun _ i _ => n - (intOf i).toNat)
  case atStart => exact ⟨k, 0, Nat.le_refl _, hkn, rfl, rfl, by omega, by omega, Lib.hid (by rw [show n - k = d by have := HNK.out; omega, HT.out]; omega), Lib.hid (Below.refl _ _)⟩
  case round =>
    obtain ⟨j, s, hkj, hjn, rfl, rfl, s0, s1, HTg, HB⟩ := hrel
    have HR := Lib.hid (HR0.out.below HB.out)
    have HV := Lib.hid (HV0.out.below HB.out)
    by_cases hlt : j < n
    · obtain ⟨d', hd'⟩ : ∃ d', n = j + (d' + 1) := ⟨n - (j + 1), by omega⟩
      have HLd := Lib.hid (show l.length = j + (d' + 1) by rw [HN.out]; exact hd')
      have hnj : n - j = d' + 1 := by omega
      have Hnj1 := Lib.hid (show n - (j + 1) = d' by omega)
      have hdd : d' < d := by have := HNK.out; omega
      rw [hnj] at HTg
      have HHd := Lib.hid hd'
      have m0 : (0 : Int) ≤ (j : Int) := by omega
      have m1 : (j : Int) < (n : Int) := by omega
      have m2 : (0 : Int) ≤ (m : Int) := by omega
      have m3 : (m : Int) ≤ 15 := by omega
      have m4 : (n : Int) ≤ 15 := by omega
      clear hnj
      obtain ⟨bb, o, y, rfl, hbb, hy, c0, c1, c2, c3⟩ := HR.out.card (k := j) (by rw [HN.out]; exact hlt)
      have HYa := Lib.hid hy
      have HY := Lib.hid (ok_at HK.out hy)
      have HPl := Lib.hid (show (pick l ps).length = m by rw [HG.out.len, HM.out])
      have hft : fits l ps j = !decide (0 < thr (pick l ps) y m) := by unfold fits; rw [hy]; simp only; rw [HPl.out]
      have HTh := fun (p2 : Option Addr) (c2' : Nat) (w' : World) (hr : Rd w' p2 (flat (pick l ps))) => l2_through (pick l ps) y p2 m c2' w' HPl.out (by omega) hr HG.out.ok HY.out HG.out.sort
      have hvb := (thr_bd (pick l ps) y m).1
      obtain ⟨v, hv⟩ : ∃ v, thr (pick l ps) y m = v := ⟨_, rfl⟩
      rw [hv] at HTh hft hvb
      have HT2 := Lib.hid HTh
      clear hy hv HTh hd'
      by_cases hv0 : 0 < v
      · have HF := Lib.hid (show fits l ps j = false by rw [hft, decide_eq_true hv0]; rfl)
        have HE := Lib.hid (lp_no (m := r + 1) HLd.out HF.out)
        have hq : (v == 0) = false := beq_eq_false_iff_ne.2 (by omega)
        clear hft
        go_wp2_with fail
        go_region_held3 (fun w' => w'.cell? ⟨bb, o + j * 4, none⟩ = some (.int .i64 y.a) ∧ w'.cell? ⟨bb, o + j * 4 + 1, none⟩ = some (.int .i64 y.b) ∧ w'.cell? ⟨bb, o + j * 4 + 2, none⟩ = some (.int .i64 y.c) ∧ w'.cell? ⟨bb, o + j * 4 + 3, none⟩ = some (.int .i64 y.d)) (first | exact ⟨c0, c1, c2, c3⟩ | exact (HR.out.at_ HYa.out)) (first
          | (go_at_call 70; refine (l3_picked l ps _ (some ⟨g, 0, none⟩) n cp m c _ HN.out (by omega) HM.out (by omega) (by repeat (first | with_reducible exact HR.out | with_reducible apply Rd.drewN | with_reducible apply Rd.drew | with_reducible apply Rd.alloc)) (by repeat (first | with_reducible exact HV.out | with_reducible apply Rd.drewN | with_reducible apply Rd.drew | with_reducible apply Rd.alloc)) HG.out.ins).mono ?_; rintro e wq ⟨u, rfl, hu, b⟩; obtain ⟨p2, c2', rfl, _, r2, _⟩ := hu.form; have HB := Lib.hid (chain0 (w := w) (by repeat (first | with_reducible exact Below.refl _ _ | with_reducible exact HB.out | with_reducible apply Below.drew | with_reducible apply bdN | with_reducible refine Below.alloc ?_ (by first | exact Nat.le_refl _ | (simp; done) | (simp; omega) | (have := HB.out.size; simp at *; omega)) _ | with_reducible refine Below.setCell ?_ (by first | exact Nat.le_refl _ | (simp; done) | (simp; omega) | (have := HB.out.size; simp at *; omega)) _)) b); have HR := Lib.hid (Rd.below (by repeat (first | with_reducible exact HR.out | with_reducible apply Rd.drewN | with_reducible apply Rd.drew | with_reducible apply Rd.alloc)) b); have HV := Lib.hid (Rd.below (by repeat (first | with_reducible exact HV.out | with_reducible apply Rd.drewN | with_reducible apply Rd.drew | with_reducible apply Rd.alloc)) b); have R2 : Hid (Rd wq p2 (flat (pick l ps))) := Lib.hid r2; rw [HPl.out]; clear b r2 hu)
          | (go_at_call 69; refine (HT2.out p2 c2' _ (by repeat (first | with_reducible exact R2.out | with_reducible apply Rd.drewN | with_reducible apply Rd.drew | with_reducible apply Rd.alloc))).mono ?_; rintro e wq ⟨rfl, b⟩; have HB := Lib.hid (chain0 (w := w) (by repeat (first | with_reducible exact Below.refl _ _ | with_reducible exact HB.out | with_reducible apply Below.drew | with_reducible apply bdN | with_reducible refine Below.alloc ?_ (by first | exact Nat.le_refl _ | (simp; done) | (simp; omega) | (have := HB.out.size; simp at *; omega)) _ | with_reducible refine Below.setCell ?_ (by first | exact Nat.le_refl _ | (simp; done) | (simp; omega) | (have := HB.out.size; simp at *; omega)) _)) b); have HR := Lib.hid (Rd.below (by repeat (first | with_reducible exact HR.out | with_reducible apply Rd.drewN | with_reducible apply Rd.drew | with_reducible apply Rd.alloc)) b); have HV := Lib.hid (Rd.below (by repeat (first | with_reducible exact HV.out | with_reducible apply Rd.drewN | with_reducible apply Rd.drew | with_reducible apply Rd.alloc)) b); clear b))
        all_goals
          go_wp2_with fail
          go_roundw
          case rel => exact ⟨j + 1, s, by omega, by omega, by go_num, rfl, s0, s1, Lib.hid (by have h1 := HTg.out; rw [HE.out] at h1; rw [Hnj1.out]; exact h1), Lib.hid (by repeat (first | with_reducible exact Below.refl _ _ | with_reducible exact HB.out | with_reducible apply Below.drew | with_reducible apply bdN | with_reducible refine Below.alloc ?_ (by first | exact Nat.le_refl _ | (simp; done) | (simp; omega) | (have := HB.out.size; simp at *; omega)) _ | with_reducible refine Below.setCell ?_ (by first | exact Nat.le_refl _ | (simp; done) | (simp; omega) | (have := HB.out.size; simp at *; omega)) _))⟩
          case measure => simp [intOf]; omega
      · have HF := Lib.hid (show fits l ps j = true by rw [hft, decide_eq_false hv0]; rfl)
        have HE := Lib.hid (lp_go (r := r) HLd.out HF.out)
        have HG2 := Lib.hid ((HG.out.mono hkj).snoc HS.out HK.out HYa.out)
        obtain rfl : v = 0 := by omega
        have hcb := lc_bd (l := l) d' (ps ++ [(j : Int)]) r (by have := HHd.out; omega)
        have hlp := lp_nonneg (l := l) d' ps (r + 1)
        have HIH := fun (g' c' : Nat) (w' : World) => IH.out d' hdd (j + 1) ((j : Int) + 1) (ps ++ [(j : Int)]) g' (m + 1) c' r (R - 1) w' (by simp) (by have := HRr.out; omega) (by omega) (by have := HHd.out; omega) (by rw [List.length_append, HM.out]; rfl) HG2.out
        have hsum : s + lc l d' (ps ++ [(j : Int)]) r + lp l d' ps (r + 1) = t := by have h1 := HTg.out; rw [HE.out] at h1; omega
        obtain ⟨z, hz⟩ : ∃ z, lc l d' (ps ++ [(j : Int)]) r = z := ⟨_, rfl⟩
        rw [hz] at hcb HIH hsum
        obtain ⟨z0, z1⟩ := hcb
        have HSum := Lib.hid hsum
        have hsz : s + z ≤ 32768 := by omega
        have HI2 := Lib.hid HIH
        clear hft hz HIH hsum hlp hvb hv0
        go_wp2_with fail
        go_region_held3 (fun w' => w'.cell? ⟨bb, o + j * 4, none⟩ = some (.int .i64 y.a) ∧ w'.cell? ⟨bb, o + j * 4 + 1, none⟩ = some (.int .i64 y.b) ∧ w'.cell? ⟨bb, o + j * 4 + 2, none⟩ = some (.int .i64 y.c) ∧ w'.cell? ⟨bb, o + j * 4 + 3, none⟩ = some (.int .i64 y.d)) (first | exact ⟨c0, c1, c2, c3⟩ | exact (HR.out.at_ HYa.out)) (first
          | (go_at_call 70; refine (l3_picked l ps _ (some ⟨g, 0, none⟩) n cp m c _ HN.out (by omega) HM.out (by omega) (by repeat (first | with_reducible exact HR.out | with_reducible apply Rd.drewN | with_reducible apply Rd.drew | with_reducible apply Rd.alloc)) (by repeat (first | with_reducible exact HV.out | with_reducible apply Rd.drewN | with_reducible apply Rd.drew | with_reducible apply Rd.alloc)) HG.out.ins).mono ?_; rintro e wq ⟨u, rfl, hu, b⟩; obtain ⟨p2, c2', rfl, _, r2, _⟩ := hu.form; have HB := Lib.hid (chain0 (w := w) (by repeat (first | with_reducible exact Below.refl _ _ | with_reducible exact HB.out | with_reducible apply Below.drew | with_reducible apply bdN | with_reducible refine Below.alloc ?_ (by first | exact Nat.le_refl _ | (simp; done) | (simp; omega) | (have := HB.out.size; simp at *; omega)) _ | with_reducible refine Below.setCell ?_ (by first | exact Nat.le_refl _ | (simp; done) | (simp; omega) | (have := HB.out.size; simp at *; omega)) _)) b); have HR := Lib.hid (Rd.below (by repeat (first | with_reducible exact HR.out | with_reducible apply Rd.drewN | with_reducible apply Rd.drew | with_reducible apply Rd.alloc)) b); have HV := Lib.hid (Rd.below (by repeat (first | with_reducible exact HV.out | with_reducible apply Rd.drewN | with_reducible apply Rd.drew | with_reducible apply Rd.alloc)) b); have R2 : Hid (Rd wq p2 (flat (pick l ps))) := Lib.hid r2; rw [HPl.out]; clear b r2 hu)
          | (go_at_call 69; refine (HT2.out p2 c2' _ (by repeat (first | with_reducible exact R2.out | with_reducible apply Rd.drewN | with_reducible apply Rd.drew | with_reducible apply Rd.alloc))).mono ?_; rintro e wq ⟨rfl, b⟩; have HB := Lib.hid (chain0 (w := w) (by repeat (first | with_reducible exact Below.refl _ _ | with_reducible exact HB.out | with_reducible apply Below.drew | with_reducible apply bdN | with_reducible refine Below.alloc ?_ (by first | exact Nat.le_refl _ | (simp; done) | (simp; omega) | (have := HB.out.size; simp at *; omega)) _ | with_reducible refine Below.setCell ?_ (by first | exact Nat.le_refl _ | (simp; done) | (simp; omega) | (have := HB.out.size; simp at *; omega)) _)) b); have HR := Lib.hid (Rd.below (by repeat (first | with_reducible exact HR.out | with_reducible apply Rd.drewN | with_reducible apply Rd.drew | with_reducible apply Rd.alloc)) b); have HV := Lib.hid (Rd.below (by repeat (first | with_reducible exact HV.out | with_reducible apply Rd.drewN | with_reducible apply Rd.drew | with_reducible apply Rd.alloc)) b); clear b))
        all_goals
          go_wp2_with fail
          refine (l1_own ps g m c _ HM.out (by omega) (by repeat (first | with_reducible exact HV.out | with_reducible apply Rd.drewN | with_reducible apply Rd.drew | with_reducible apply Rd.alloc))).mono ?_
          rintro e w5 ⟨u5, rfl, ho5, b⟩
          have HSz := Lib.hid HB.out.size
          have H5 := Lib.hid ho5
          have HB5 : Hid (Below w.heap.size w w5) := Lib.hid (chain0 (by repeat (first | with_reducible exact Below.refl _ _ | with_reducible exact HB.out | with_reducible apply Below.drew | with_reducible apply bdN | with_reducible refine Below.alloc ?_ (by first | exact Nat.le_refl _ | (simp; done) | (simp; omega) | (have := HB.out.size; simp at *; omega)) _ | with_reducible refine Below.setCell ?_ (by first | exact Nat.le_refl _ | (simp; done) | (simp; omega) | (have := HB.out.size; simp at *; omega)) _)) b)
          have Hz5 := Lib.hid b.size
          clear b ho5
          go_wp2_with (at_builtin; refine append_int rfl (.tmp 32) (.tmp 34) rfl _ u5 ps (j : Int) w5 _ rfl rfl rfl H5.out (by have := HM.out; omega) Hz5.out ?_; intro v6 w6 hO6 hB6; have H6 := Lib.hid hO6; have Hb6 := Lib.hid hB6; clear hO6 hB6)
          have HB6 := Lib.hid (HB5.out.trans (Hb6.out.mono (by first | exact HSz.out | (have := HSz.out; have := HB5.out.size; omega))))
          have hl6 : (ps ++ [(j : Int)]).length = m + 1 := by rw [List.length_append, HM.out]; rfl
          obtain ⟨p6, c6, rfl, _, _, hp6⟩ := H6.out.form
          obtain ⟨g6, rfl, _⟩ := hp6 (by omega)
          rw [hl6] at H6 ⊢
          clear hl6 hp6
          go_wp2_with fail
          refine (HI2.out g6 c6 w6 (HR0.out.below HB6.out) H6.out.rd).mono ?_
          rintro e w7 ⟨rfl, b7⟩
          have HB7 := Lib.hid (chain0 HB6.out b7)
          clear b7
          go_wp2_with fail
          go_roundw
          case rel => exact ⟨j + 1, s + z, by omega, by omega, by go_num, by go_num, by omega, hsz, Lib.hid (by rw [Hnj1.out]; exact HSum.out), HB7⟩
          case measure => simp [intOf]; omega
    · obtain rfl : j = n := by omega
      have HTb := Lib.hid (show s = t by have h1 := HTg.out; rw [Nat.sub_self] at h1; simp only [lp] at h1; omega)
      go_wp2_with fail
      go_ret
      exact ⟨ret_int HTb.out, HB.out⟩
end Go.Proofs.Ytbimbaogjknboaa.cards
