/- GreatestCap and FewestDrops: the model's search. -/
import Derived.Test.YtbimbaogjknboaaGh
import Derived.Test.YtbimbaogjknboaaGs
namespace Go.Proofs.Ytbimbaogjknboaa.cards
open Go.RowKit
set_option linter.unusedVariables false

theorem sr_go {l : List Cd} {ps b : List Int} {k d : Nat} (hk : l.length = k + (d + 1)) (hb : b.length < ps.length + (d + 1)) : sr l (d + 1) ps b = sr l d ps (if fits l ps k = true then gf b (sr l d (ps ++ [(k : Int)]) (ps ++ [(k : Int)])) else b) := by
  have e : l.length - (d + 1) = k := by omega
  rw [sr, e, if_pos hb]
theorem sr_stop {l : List Cd} {ps b : List Int} {d : Nat} (hb : ¬ b.length < ps.length + (d + 1)) : sr l (d + 1) ps b = b := by rw [sr, if_neg hb]
theorem sr_len {l : List Cd} {d N : Nat} {ps b : List Int} (hd : d ≤ l.length) (hb : b.length ≤ N) (hp : ps.length + d ≤ N) : (sr l d ps b).length ≤ N := by
  rw [sr_all d ps b hd]
  exact foldl_len _ _ _ hb (fun q hq => by have := (tl_len d ps q hq).1; omega)

set_option maxRecDepth 100000 in
set_option maxHeartbeats 2000000 in
theorem l1_own (ps : List Int) (g m c : Nat) (w : World) (hm : ps.length = m) (hl : m ≤ 1000000) (hr : Rd w (some ⟨g, 0, none⟩) (ints ps)) :
    Calls Try.prog 99 #[.slice (some ⟨g, 0, none⟩) m c] w fun e w' => ∃ u, e = .returned u ∧ OwnI w' w.heap.size u ps ∧ Below w.heap.size w w' := by
  have HM := Lib.hid hm
  have HR := Lib.hid hr
  have HO := Lib.hid (OwnI.empty w w.heap.size (Nat.le_refl _))
  have HB0 : Hid (Below w.heap.size w (w.alloc (.cells #[] 3))) := Lib.hid ((Below.refl _ _).alloc (Nat.le_refl _) _)
  clear hm hr
  go_enter Try.func99, Try.ntmps99
  go_wp2_with (at_builtin; refine append_ints rfl (.tmp 3) (.tmp 4) rfl w.heap.size (.slice (some ⟨w.heap.size, 0, none⟩) 0 0) [] ps g m c _ rfl rfl HO.out HM.out (HR.out.alloc _) (by simp; omega) HB0.out.size ?_; intro v1 w1 hO1 hN1 hB1)
  go_ret
  exact ⟨_, rfl, hO1, HB0.out.trans hB1⟩

set_option maxRecDepth 100000 in
set_option maxHeartbeats 2000000 in
theorem l3_pool (l : List Cd) (p : Option Addr) (n cp : Nat) (w : World) (hn : l.length = n) (hl : n ≤ 1000000000) (hr : Rd w p (flat l)) :
    Calls Try.prog 71 #[.slice p n cp] w fun e w' => e = .returned (.bool (poolB l)) ∧ Below w.heap.size w w' := by
  have HN := Lib.hid hn
  have HR := Lib.hid hr
  clear hn hr
  go_enter Try.func71, Try.ntmps71
  go_wp2_with fail
  refine ((l2_hand l p n cp _ HN.out hl (by repeat (first | with_reducible exact HR.out | with_reducible apply Rd.drewN | with_reducible apply Rd.drew | with_reducible apply Rd.alloc)))).mono ?_
  rintro e w1 ⟨rfl, b⟩
  have Sw1 := Lib.hid b.size
  have HB := Lib.hid (chain0 (w := w) (by repeat (first | with_reducible exact Below.refl _ _ | with_reducible exact HB.out | with_reducible apply Below.drew | with_reducible apply bdN | with_reducible refine Below.alloc ?_ (by first | exact Nat.le_refl _ | (simp; done) | (simp; omega) | (have := HB.out.size; simp at *; omega)) _ | with_reducible refine Below.setCell ?_ (by first | exact Nat.le_refl _ | (simp; done) | (simp; omega) | (have := HB.out.size; simp at *; omega)) _)) b)
  have HR := Lib.hid (Rd.below (by repeat (first | with_reducible exact HR.out | with_reducible apply Rd.drewN | with_reducible apply Rd.drew | with_reducible apply Rd.alloc)) b)
  clear b
  cases hh : handB l
  · have HP := Lib.hid (show poolB l = false by unfold poolB; rw [hh]; rfl)
    go_wp2_with fail
    go_ret
    exact ⟨ret_bool (by rw [HP.out]), by repeat (first | with_reducible exact Below.refl _ _ | with_reducible exact HB.out | with_reducible apply Below.drew | with_reducible apply bdN | with_reducible refine Below.alloc ?_ (by first | exact Nat.le_refl _ | (simp; done) | (simp; omega) | (have := HB.out.size; simp at *; omega)) _ | with_reducible refine Below.setCell ?_ (by first | exact Nat.le_refl _ | (simp; done) | (simp; omega) | (have := HB.out.size; simp at *; omega)) _)⟩
  · by_cases h : n ≤ 15
    · have hd : (n : Int) ≤ 15 := by omega
      have HP := Lib.hid (show poolB l = true by unfold poolB; rw [HN.out, decide_eq_true h, hh]; rfl)
      go_wp2_with fail
      go_ret
      exact ⟨ret_bool (by rw [HP.out]), by repeat (first | with_reducible exact Below.refl _ _ | with_reducible exact HB.out | with_reducible apply Below.drew | with_reducible apply bdN | with_reducible refine Below.alloc ?_ (by first | exact Nat.le_refl _ | (simp; done) | (simp; omega) | (have := HB.out.size; simp at *; omega)) _ | with_reducible refine Below.setCell ?_ (by first | exact Nat.le_refl _ | (simp; done) | (simp; omega) | (have := HB.out.size; simp at *; omega)) _)⟩
    · have hd : decide ((n : Int) ≤ 15) = false := by simp; omega
      have HP := Lib.hid (show poolB l = false by unfold poolB; rw [HN.out, decide_eq_false h]; simp)
      go_wp2_with fail
      go_ret
      exact ⟨ret_bool (by rw [HP.out]), by repeat (first | with_reducible exact Below.refl _ _ | with_reducible exact HB.out | with_reducible apply Below.drew | with_reducible apply bdN | with_reducible refine Below.alloc ?_ (by first | exact Nat.le_refl _ | (simp; done) | (simp; omega) | (have := HB.out.size; simp at *; omega)) _ | with_reducible refine Below.setCell ?_ (by first | exact Nat.le_refl _ | (simp; done) | (simp; omega) | (have := HB.out.size; simp at *; omega)) _)⟩

set_option maxRecDepth 100000 in
set_option maxHeartbeats 8000000 in
theorem l3_search (l : List Cd) (p : Option Addr) (n cp : Nat) (hn : l.length = n) (hl : n ≤ 900) (hok : l.all Cd.ok = true) (hs : sorted l) :
    ∀ (d k : Nat) (K : Int) (ps : List Int) (g m c B : Nat) (w : World), K = (k : Int) → n = k + d → ps.length = m → Good l ps k → Rd w p (flat l) → OwnI w B (.slice (some ⟨g, 0, none⟩) m c) ps → B ≤ w.heap.size →
      Calls Try.prog 72 #[.slice p n cp, .slice (some ⟨g, 0, none⟩) m c, .int .i64 K] w fun e w' => ∃ g' c', e = .returned (.slice (some ⟨g', 0, none⟩) (sr l d ps ps).length c') ∧ OwnI w' B (.slice (some ⟨g', 0, none⟩) (sr l d ps ps).length c') (sr l d ps ps) ∧ Below w.heap.size w w' := by
  have HN := Lib.hid hn
  have HK := Lib.hid hok
  have HS := Lib.hid hs
  clear hn hok hs
  intro d
  induction d using Nat.strongRecOn with
  | ind d ih =>
  intro k K ps g m c B w hK hd hm hG hR hO hB
  have IH := Lib.hid ih
  have HG := Lib.hid hG
  have HM := Lib.hid hm
  have HR0 := Lib.hid hR
  have HO0 := Lib.hid hO
  have HBz := Lib.hid hB
  have HNK := Lib.hid hd
  have hkn : k ≤ n := by omega
  have hmk : m ≤ k := by have := hG.le; omega
  obtain ⟨t, htg⟩ : ∃ t, sr l d ps ps = t := ⟨_, rfl⟩
  rw [htg]
  have HT := Lib.hid htg
  clear ih hG hm hR hO hB hd htg
  subst hK
  go_enter Try.func72, Try.ntmps72
  go_wp2_with fail
  go_loopw [7, 8] (fun u i wr => ∃ (j : Nat) (b : List Int) (gb cb x : Nat), k ≤ j ∧ j ≤ n ∧ i = .int .i64 j ∧ u = .slice (some ⟨gb, 0, none⟩) x cb ∧ x ≤ n ∧ Hid (b.length = x) ∧ Hid (OwnI wr B (.slice (some ⟨gb, 0, none⟩) x cb) b) ∧ Hid (sr l (n - j) ps b = t) ∧ Hid (Below w.heap.size w wr)) (fun _ i _ => n - (intOf i).toNat)
  case atStart => exact ⟨k, ps, g, c, m, Nat.le_refl _, hkn, rfl, rfl, by omega, HM, HO0, Lib.hid (by rw [show n - k = d by have := HNK.out; omega]; exact HT.out), Lib.hid (Below.refl _ _)⟩
  case round =>
    obtain ⟨j, b, gb, cb, x, hkj, hjn, rfl, rfl, hxn, Hbl, HBe, HTg, HB⟩ := hrel
    have HR := Lib.hid (HR0.out.below HB.out)
    have HV := Lib.hid (HO0.out.below HB.out)
    by_cases hlt : j < n
    · obtain ⟨d', hd'⟩ : ∃ d', n = j + (d' + 1) := ⟨n - (j + 1), by omega⟩
      have HLd := Lib.hid (show l.length = j + (d' + 1) by rw [HN.out]; exact hd')
      have hnj : n - j = d' + 1 := by omega
      have Hnj1 := Lib.hid (show n - (j + 1) = d' by omega)
      have hdd : d' < d := by have := HNK.out; omega
      rw [hnj] at HTg
      have HHd := Lib.hid hd'
      have m0 : (0 : Int) ≤ (j : Int) := by omega
      have m1 : (j : Int) < (n : Int) := by omega
      have m2 : (0 : Int) ≤ (m : Int) := by omega
      have m3 : (m : Int) ≤ 900 := by omega
      have m4 : (n : Int) ≤ 900 := by omega
      have m5 : (0 : Int) ≤ (x : Int) := by omega
      clear hnj
      by_cases hb : x < m + (d' + 1)
      · have HE := Lib.hid (sr_go (ps := ps) (b := b) HLd.out (by rw [Hbl.out, HM.out]; exact hb))
        obtain ⟨bb, o, y, rfl, hbb, hy, c0, c1, c2, c3⟩ := HR.out.card (k := j) (by rw [HN.out]; exact hlt)
        have HYa := Lib.hid hy
        have HY := Lib.hid (ok_at HK.out hy)
        have HPl := Lib.hid (show (pick l ps).length = m by rw [HG.out.len, HM.out])
        have hft : fits l ps j = !decide (0 < thr (pick l ps) y m) := by unfold fits; rw [hy]; simp only; rw [HPl.out]
        have HTh := fun (p2 : Option Addr) (c2' : Nat) (w' : World) (hr : Rd w' p2 (flat (pick l ps))) => l2_through (pick l ps) y p2 m c2' w' HPl.out (by omega) hr HG.out.ok HY.out HG.out.sort
        obtain ⟨v, hv⟩ : ∃ v, thr (pick l ps) y m = v := ⟨_, rfl⟩
        rw [hv] at HTh hft
        have HT2 := Lib.hid HTh
        have HVr := Lib.hid HV.out.rd
        have hcond : (x : Int) < (m : Int) + (n : Int) - (j : Int) := by omega
        clear hy hv HTh hd'
        by_cases hv0 : 0 < v
        · have HF := Lib.hid (show fits l ps j = false by rw [hft, decide_eq_true hv0]; rfl)
          clear hft
          go_wp2_with fail
          go_region_held3 (fun w' => w'.cell? ⟨bb, o + j * 4, none⟩ = some (.int .i64 y.a) ∧ w'.cell? ⟨bb, o + j * 4 + 1, none⟩ = some (.int .i64 y.b) ∧ w'.cell? ⟨bb, o + j * 4 + 2, none⟩ = some (.int .i64 y.c) ∧ w'.cell? ⟨bb, o + j * 4 + 3, none⟩ = some (.int .i64 y.d)) (first | exact ⟨c0, c1, c2, c3⟩ | exact (HR.out.at_ HYa.out)) (first
            | (go_at_call 70; refine (l3_picked l ps _ (some ⟨g, 0, none⟩) n cp m c _ HN.out (by omega) HM.out (by omega) (by repeat (first | with_reducible exact HR.out | with_reducible apply Rd.drewN | with_reducible apply Rd.drew | with_reducible apply Rd.alloc)) (by repeat (first | with_reducible exact HVr.out | with_reducible apply Rd.drewN | with_reducible apply Rd.drew | with_reducible apply Rd.alloc)) HG.out.ins).mono ?_; rintro e wq ⟨u, rfl, hu, b⟩; obtain ⟨p2, c2', rfl, _, r2, _⟩ := hu.form; have HB := Lib.hid (chain0 (w := w) (by repeat (first | with_reducible exact Below.refl _ _ | with_reducible exact HB.out | with_reducible apply Below.drew | with_reducible apply bdN | with_reducible refine Below.alloc ?_ (by first | exact Nat.le_refl _ | (simp; done) | (simp; omega) | (have := HB.out.size; simp at *; omega)) _ | with_reducible refine Below.setCell ?_ (by first | exact Nat.le_refl _ | (simp; done) | (simp; omega) | (have := HB.out.size; simp at *; omega)) _)) b); have HR := Lib.hid (Rd.below (by repeat (first | with_reducible exact HR.out | with_reducible apply Rd.drewN | with_reducible apply Rd.drew | with_reducible apply Rd.alloc)) b); have HVr := Lib.hid (Rd.below (by repeat (first | with_reducible exact HVr.out | with_reducible apply Rd.drewN | with_reducible apply Rd.drew | with_reducible apply Rd.alloc)) b); have HV := Lib.hid (OwnI.below (by repeat (first | with_reducible exact HV.out | with_reducible apply OwnI.drewN | with_reducible apply OwnI.drew | with_reducible apply OwnI.alloc)) b); have HBe := Lib.hid (OwnI.below (by repeat (first | with_reducible exact HBe.out | with_reducible apply OwnI.drewN | with_reducible apply OwnI.drew | with_reducible apply OwnI.alloc)) b); have R2 : Hid (Rd wq p2 (flat (pick l ps))) := Lib.hid r2; rw [HPl.out]; clear b r2 hu)
            | (go_at_call 69; refine (HT2.out p2 c2' _ (by repeat (first | with_reducible exact R2.out | with_reducible apply Rd.drewN | with_reducible apply Rd.drew | with_reducible apply Rd.alloc))).mono ?_; rintro e wq ⟨rfl, b⟩; have HB := Lib.hid (chain0 (w := w) (by repeat (first | with_reducible exact Below.refl _ _ | with_reducible exact HB.out | with_reducible apply Below.drew | with_reducible apply bdN | with_reducible refine Below.alloc ?_ (by first | exact Nat.le_refl _ | (simp; done) | (simp; omega) | (have := HB.out.size; simp at *; omega)) _ | with_reducible refine Below.setCell ?_ (by first | exact Nat.le_refl _ | (simp; done) | (simp; omega) | (have := HB.out.size; simp at *; omega)) _)) b); have HR := Lib.hid (Rd.below (by repeat (first | with_reducible exact HR.out | with_reducible apply Rd.drewN | with_reducible apply Rd.drew | with_reducible apply Rd.alloc)) b); have HVr := Lib.hid (Rd.below (by repeat (first | with_reducible exact HVr.out | with_reducible apply Rd.drewN | with_reducible apply Rd.drew | with_reducible apply Rd.alloc)) b); have HV := Lib.hid (OwnI.below (by repeat (first | with_reducible exact HV.out | with_reducible apply OwnI.drewN | with_reducible apply OwnI.drew | with_reducible apply OwnI.alloc)) b); have HBe := Lib.hid (OwnI.below (by repeat (first | with_reducible exact HBe.out | with_reducible apply OwnI.drewN | with_reducible apply OwnI.drew | with_reducible apply OwnI.alloc)) b); clear b))
          all_goals
            go_wp2_with fail
            go_roundw
            case rel => exact ⟨j + 1, b, gb, cb, x, by omega, by omega, by go_num, rfl, hxn, Hbl, Lib.hid (by repeat (first | with_reducible exact HBe.out | with_reducible apply OwnI.drewN | with_reducible apply OwnI.drew)), Lib.hid (by have h1 := HTg.out; rw [HE.out, if_neg (by rw [HF.out]; simp)] at h1; rw [Hnj1.out]; exact h1), Lib.hid (by repeat (first | with_reducible exact Below.refl _ _ | with_reducible exact HB.out | with_reducible apply Below.drew | with_reducible apply bdN | with_reducible refine Below.alloc ?_ (by first | exact Nat.le_refl _ | (simp; done) | (simp; omega) | (have := HB.out.size; simp at *; omega)) _ | with_reducible refine Below.setCell ?_ (by first | exact Nat.le_refl _ | (simp; done) | (simp; omega) | (have := HB.out.size; simp at *; omega)) _))⟩
            case measure => simp [intOf]; omega
        · have HF := Lib.hid (show fits l ps j = true by rw [hft, decide_eq_false hv0]; rfl)
          have HG2 := Lib.hid ((HG.out.mono hkj).snoc HS.out HK.out HYa.out)
          have HLen := Lib.hid (show (sr l d' (ps ++ [(j : Int)]) (ps ++ [(j : Int)])).length ≤ n from sr_len (by rw [HN.out]; have := HHd.out; omega) (by have := HM.out; have := HHd.out; simp; omega) (by have := HM.out; have := HHd.out; simp; omega))
          clear hft
          go_wp2_with fail
          go_region_held3 (fun w' => w'.cell? ⟨bb, o + j * 4, none⟩ = some (.int .i64 y.a) ∧ w'.cell? ⟨bb, o + j * 4 + 1, none⟩ = some (.int .i64 y.b) ∧ w'.cell? ⟨bb, o + j * 4 + 2, none⟩ = some (.int .i64 y.c) ∧ w'.cell? ⟨bb, o + j * 4 + 3, none⟩ = some (.int .i64 y.d)) (first | exact ⟨c0, c1, c2, c3⟩ | exact (HR.out.at_ HYa.out)) (first
            | (go_at_call 70; refine (l3_picked l ps _ (some ⟨g, 0, none⟩) n cp m c _ HN.out (by omega) HM.out (by omega) (by repeat (first | with_reducible exact HR.out | with_reducible apply Rd.drewN | with_reducible apply Rd.drew | with_reducible apply Rd.alloc)) (by repeat (first | with_reducible exact HVr.out | with_reducible apply Rd.drewN | with_reducible apply Rd.drew | with_reducible apply Rd.alloc)) HG.out.ins).mono ?_; rintro e wq ⟨u, rfl, hu, b⟩; obtain ⟨p2, c2', rfl, _, r2, _⟩ := hu.form; have HB := Lib.hid (chain0 (w := w) (by repeat (first | with_reducible exact Below.refl _ _ | with_reducible exact HB.out | with_reducible apply Below.drew | with_reducible apply bdN | with_reducible refine Below.alloc ?_ (by first | exact Nat.le_refl _ | (simp; done) | (simp; omega) | (have := HB.out.size; simp at *; omega)) _ | with_reducible refine Below.setCell ?_ (by first | exact Nat.le_refl _ | (simp; done) | (simp; omega) | (have := HB.out.size; simp at *; omega)) _)) b); have HR := Lib.hid (Rd.below (by repeat (first | with_reducible exact HR.out | with_reducible apply Rd.drewN | with_reducible apply Rd.drew | with_reducible apply Rd.alloc)) b); have HVr := Lib.hid (Rd.below (by repeat (first | with_reducible exact HVr.out | with_reducible apply Rd.drewN | with_reducible apply Rd.drew | with_reducible apply Rd.alloc)) b); have HV := Lib.hid (OwnI.below (by repeat (first | with_reducible exact HV.out | with_reducible apply OwnI.drewN | with_reducible apply OwnI.drew | with_reducible apply OwnI.alloc)) b); have HBe := Lib.hid (OwnI.below (by repeat (first | with_reducible exact HBe.out | with_reducible apply OwnI.drewN | with_reducible apply OwnI.drew | with_reducible apply OwnI.alloc)) b); have R2 : Hid (Rd wq p2 (flat (pick l ps))) := Lib.hid r2; rw [HPl.out]; clear b r2 hu)
            | (go_at_call 69; refine (HT2.out p2 c2' _ (by repeat (first | with_reducible exact R2.out | with_reducible apply Rd.drewN | with_reducible apply Rd.drew | with_reducible apply Rd.alloc))).mono ?_; rintro e wq ⟨rfl, b⟩; have HB := Lib.hid (chain0 (w := w) (by repeat (first | with_reducible exact Below.refl _ _ | with_reducible exact HB.out | with_reducible apply Below.drew | with_reducible apply bdN | with_reducible refine Below.alloc ?_ (by first | exact Nat.le_refl _ | (simp; done) | (simp; omega) | (have := HB.out.size; simp at *; omega)) _ | with_reducible refine Below.setCell ?_ (by first | exact Nat.le_refl _ | (simp; done) | (simp; omega) | (have := HB.out.size; simp at *; omega)) _)) b); have HR := Lib.hid (Rd.below (by repeat (first | with_reducible exact HR.out | with_reducible apply Rd.drewN | with_reducible apply Rd.drew | with_reducible apply Rd.alloc)) b); have HVr := Lib.hid (Rd.below (by repeat (first | with_reducible exact HVr.out | with_reducible apply Rd.drewN | with_reducible apply Rd.drew | with_reducible apply Rd.alloc)) b); have HV := Lib.hid (OwnI.below (by repeat (first | with_reducible exact HV.out | with_reducible apply OwnI.drewN | with_reducible apply OwnI.drew | with_reducible apply OwnI.alloc)) b); have HBe := Lib.hid (OwnI.below (by repeat (first | with_reducible exact HBe.out | with_reducible apply OwnI.drewN | with_reducible apply OwnI.drew | with_reducible apply OwnI.alloc)) b); clear b))
          all_goals
            go_wp2_with fail
            have HLb := Lib.hid HBe.out.lt
            have HLv := Lib.hid HV.out.lt
            have HSz := Lib.hid HB.out.size
            refine (l1_own ps g m c _ HM.out (by omega) (by repeat (first | with_reducible exact HVr.out | with_reducible apply Rd.drewN | with_reducible apply Rd.drew | with_reducible apply Rd.alloc))).mono ?_
            rintro e w5 ⟨u5, rfl, ho5, b⟩
            have Hb5 := Lib.hid b
            have H5 := Lib.hid ho5
            have HB5 : Hid (Below w.heap.size w w5) := Lib.hid (chain0 (by repeat (first | with_reducible exact Below.refl _ _ | with_reducible exact HB.out | with_reducible apply Below.drew | with_reducible apply bdN | with_reducible refine Below.alloc ?_ (by first | exact Nat.le_refl _ | (simp; done) | (simp; omega) | (have := HB.out.size; simp at *; omega)) _ | with_reducible refine Below.setCell ?_ (by first | exact Nat.le_refl _ | (simp; done) | (simp; omega) | (have := HB.out.size; simp at *; omega)) _)) b)
            have HR5 := Lib.hid (Rd.below (by repeat (first | with_reducible exact HR.out | with_reducible apply Rd.drewN | with_reducible apply Rd.drew | with_reducible apply Rd.alloc)) b)
            have HBe5 : Hid (OwnI w5 B (.slice (some ⟨gb, 0, none⟩) x cb) _) := Lib.hid (OwnI.below (by repeat (first | with_reducible exact HBe.out | with_reducible apply OwnI.drewN | with_reducible apply OwnI.drew)) b)
            have Hz5 := Lib.hid b.size
            clear b ho5
            go_wp2_with (at_builtin; refine append_int rfl (.tmp 41) (.tmp 43) rfl _ u5 ps (j : Int) w5 _ rfl rfl rfl H5.out (by have := HM.out; omega) Hz5.out ?_; intro v6 w6 hO6 hB6; have H6 := Lib.hid hO6; have Hb6 := Lib.hid hB6; clear hO6 hB6)
            have HB6 := Lib.hid (HB5.out.trans (Hb6.out.mono HSz.out))
            have HBe6 := Lib.hid (OwnI.under HBe5.out HLb.out Hb6.out)
            have hl6 : (ps ++ [(j : Int)]).length = m + 1 := by rw [List.length_append, HM.out]; rfl
            obtain ⟨p6, c6, rfl, _, _, hp6⟩ := H6.out.form
            obtain ⟨g6, rfl, _⟩ := hp6 (by omega)
            rw [hl6] at H6 ⊢
            have HL6 := Lib.hid hl6
            have H6z := Lib.hid Hb6.out.size
            clear hl6 hp6
            go_wp2_with fail
            refine (IH.out d' hdd (j + 1) _ (ps ++ [(j : Int)]) g6 (m + 1) c6 _ w6 (by simp) (by have := HHd.out; omega) HL6.out HG2.out (HR0.out.below HB6.out) H6.out (by have := Hz5.out; have := H6z.out; omega)).mono ?_
            rintro e w7 ⟨g7, c7, rfl, ho7, b7⟩
            have H7 := Lib.hid (OwnI.base ho7 (Nat.le_trans HBz.out HSz.out))
            have HB7 := Lib.hid (chain0 HB6.out b7)
            have HBe7 := Lib.hid (HBe6.out.below b7)
            obtain ⟨x7, hx7⟩ : ∃ x7, (sr l d' (ps ++ [(j : Int)]) (ps ++ [(j : Int)])).length = x7 := ⟨_, rfl⟩
            have HX7 := Lib.hid hx7
            have hx7n : x7 ≤ n := by rw [← hx7]; exact HLen.out
            rw [hx7] at H7 ⊢
            clear ho7 b7 hx7
            by_cases h7 : x < x7
            · have HGf := Lib.hid (show gf b (sr l d' (ps ++ [(j : Int)]) (ps ++ [(j : Int)])) = sr l d' (ps ++ [(j : Int)]) (ps ++ [(j : Int)]) by unfold gf; rw [if_pos (by rw [Hbl.out, HX7.out]; exact h7)])
              have hd7 : (x : Int) < (x7 : Int) := by omega
              go_wp2_with fail
              go_roundw
              case rel => exact ⟨j + 1, _, g7, c7, x7, by omega, by omega, by go_num, rfl, hx7n, HX7, H7, Lib.hid (by have h1 := HTg.out; rw [HE.out, if_pos HF.out, HGf.out] at h1; rw [Hnj1.out]; exact h1), HB7⟩
              case measure => simp [intOf]; omega
            · have HGf := Lib.hid (show gf b (sr l d' (ps ++ [(j : Int)]) (ps ++ [(j : Int)])) = b by unfold gf; rw [if_neg (by rw [Hbl.out, HX7.out]; exact h7)])
              have hd7 : ¬ (x : Int) < (x7 : Int) := by omega
              go_wp2_with fail
              go_roundw
              case rel => exact ⟨j + 1, b, gb, cb, x, by omega, by omega, by go_num, rfl, hxn, Hbl, HBe7, Lib.hid (by have h1 := HTg.out; rw [HE.out, if_pos HF.out, HGf.out] at h1; rw [Hnj1.out]; exact h1), HB7⟩
              case measure => simp [intOf]; omega
      · have HE := Lib.hid (sr_stop (l := l) (ps := ps) (b := b) (d := d') (by rw [Hbl.out, HM.out]; exact hb))
        have hcond : ¬ (x : Int) < (m : Int) + (n : Int) - (j : Int) := by omega
        have HTb := Lib.hid (show b = t by rw [← HE.out]; exact HTg.out)
        clear hd'
        go_wp2_with fail
        go_ret
        exact ⟨gb, cb, by rw [← HTb.out, Hbl.out]; rfl, by rw [← HTb.out, Hbl.out]; exact HBe.out, HB.out⟩
    · obtain rfl : j = n := by omega
      have HTb := Lib.hid (show b = t by have h1 := HTg.out; rw [Nat.sub_self] at h1; exact h1)
      go_wp2_with fail
      go_ret
      exact ⟨gb, cb, by rw [← HTb.out, Hbl.out]; rfl, by rw [← HTb.out, Hbl.out]; exact HBe.out, HB.out⟩
end Go.Proofs.Ytbimbaogjknboaa.cards
