/- Maps: MapOrder, the program's and the model's. -/
import Derived.Test.YtngfdfgeoieebaaMm
import Derived.Test.YtngfdfgeoieebaaMy
import Derived.Deep.Onto
namespace Go.Proofs.Ytngfdfgeoieebaa.maps
open Go.RowKit
open cards reg
set_option linter.unusedVariables false

theorem pow_pred {m : Mp} (hm : m.ok = true) {k : Nat} (h : pow m (k + 1) = m) : pow m k = idM := bh_cancel (pow_ok hm k) hm h
theorem ord_at {m : Mp} (hm : m.ok = true) {k : Nat} (h1 : 1 ≤ k) (h2 : k ≤ ordN m) : sameM (pow m (k + 1)) m = decide (k = ordN m) := by
  obtain ⟨a1, a2, a3, a4⟩ := ordN_spec hm
  rw [Bool.eq_iff_iff, sameM_iff, decide_eq_true_iff]
  constructor
  · intro h
    rcases Nat.lt_or_ge k (ordN m) with h3 | h3
    · exact absurd (pow_pred hm h) (a4 k h1 h3)
    · omega
  · rintro rfl
    show bh (pow m (ordN m)) m = m
    rw [a3]; exact id_bh hm
theorem ord_id {m : Mp} (hm : m.ok = true) {k : Nat} (h1 : 1 ≤ k) (h2 : k ≤ ordN m) : sameM (pow m k) idM = decide (k = ordN m) := by
  obtain ⟨a1, a2, a3, a4⟩ := ordN_spec hm
  rw [Bool.eq_iff_iff, sameM_iff, decide_eq_true_iff]
  constructor
  · intro h
    rcases Nat.lt_or_ge k (ordN m) with h3 | h3
    · exact absurd h (a4 k h1 h3)
    · omega
  · rintro rfl; exact a3
/-- What MapOrder returns. -/
noncomputable def ordR (m : Mp) : Int × Bool := if m.ok = true then ((ordN m : Int), true) else (0, false)

set_option maxRecDepth 100000 in
set_option maxHeartbeats 4000000 in
theorem round_map (m : Mp) (N : Nat) (w : World) (hm : m.ok = true) (hN : ordN m = N) :
    Calls Try.prog 73 #[m.val, m.val, .func (.func 67) #[] #[]] w fun e w' => ∃ u, e = .returned u ∧ OwnM w' w.heap.size u N ∧ Below w.heap.size w w' := by
  have hs := ordN_spec hm
  rw [hN] at hs
  have HN1 : 1 ≤ N := hs.1
  have HN2 : N ≤ 18 := hs.2.1
  have HM := Lib.hid hm
  have HA := Lib.hid (fun (k : Nat) (h1 : 1 ≤ k) (h2 : k ≤ N) => (by have := ord_at hm h1 (by rw [hN]; exact h2); rw [hN] at this; exact this : sameM (pow m (k + 1)) m = decide (k = N)))
  clear hs hN hm
  have K0 : Hid (MBox ((w.alloc (Mv.obj ⟨28, m⟩)).alloc (Mv.obj ⟨28, m⟩)) w.heap.size ⟨28, m⟩) := Lib.hid ((MBox.newAt rfl rfl).alloc _)
  have K1 : Hid (MBox ((w.alloc (Mv.obj ⟨28, m⟩)).alloc (Mv.obj ⟨28, m⟩)) (w.heap.size + 1) ⟨28, m⟩) := Lib.hid (MBox.newAt (by simp) rfl)
  have HB : Hid (Below w.heap.size w ((w.alloc (Mv.obj ⟨28, m⟩)).alloc (Mv.obj ⟨28, m⟩))) := Lib.hid (((Below.refl _ _).alloc (Nat.le_refl _) _).alloc (by simp) _)
  go_enter Try.func73, Try.ntmps73
  go_upto_region 1 with fail
  generalize (w.alloc (Mv.obj ⟨28, m⟩)).alloc (Mv.obj ⟨28, m⟩) = W at *
  have HO := Lib.hid (OwnM.one W (w.heap.size + 2) K1.out.lt m)
  go_upto_region 2 with ((with_reducible refine take_map rfl _ rfl K1.out ?_ ?_); rfl)
  have K0 := Lib.hid (K0.out.alloc (Mv.obj ⟨28, m⟩))
  have K1 := Lib.hid (K1.out.alloc (Mv.obj ⟨28, m⟩))
  have HB := Lib.hid (HB.out.alloc HB.out.size (Mv.obj ⟨28, m⟩))
  obtain ⟨g0, hg0⟩ : ∃ g, W.heap.size = g := ⟨_, rfl⟩
  rw [hg0] at HO
  try rw [hg0]
  clear hg0
  generalize W.alloc (Mv.obj ⟨28, m⟩) = W2 at *
  go_wp2_with (first | ((with_reducible refine take_map rfl _ rfl K0.out ?_ ?_); rfl) | ((with_reducible refine take_map rfl _ rfl K1.out ?_ ?_); rfl))
  refine (then_run m m _ HM.out HM.out).mono ?_
  rintro e w1 ⟨rfl, q⟩
  have HB := Lib.hid (chain0 HB.out q)
  have HO := Lib.hid (OwnM.below HO.out q)
  have K0 := Lib.hid (MBox.below K0.out q)
  have K1 := Lib.hid (MBox.below K1.out q)
  clear q
  have HI1 : Hid (pow m 2 = bh m m) := Lib.hid (by show bh (pow m 1) m = _; rw [pow_one HM.out])
  rw [← HI1.out]
  obtain ⟨y, hy⟩ : ∃ y, pow m 2 = y := ⟨_, rfl⟩
  have HY := Lib.hid hy
  rw [hy]
  clear hy HI1
  have hz := HB.out.size
  have hz1 := K1.out.lt
  have KN : Hid (MBox (w1.alloc (Mv.obj ⟨28, zeroM⟩)) w1.heap.size ⟨28, zeroM⟩) := Lib.hid (MBox.newAt rfl rfl)
  have HNE : Hid (∀ b, (Value.slice (some ⟨g0, 0, none⟩) 1 1).ownBlock = some b → b ≠ w1.heap.size) := Lib.hid (fun b hb => by have := (OwnM.lt HO.out b hb).2; omega)
  have WB := Lib.hid (HB.out.alloc hz (Mv.obj ⟨28, zeroM⟩))
  have WO := Lib.hid (HO.out.alloc (Mv.obj ⟨28, zeroM⟩))
  have V0 := Lib.hid (K0.out.alloc (Mv.obj ⟨28, zeroM⟩))
  have V1 := Lib.hid (K1.out.alloc (Mv.obj ⟨28, zeroM⟩))
  clear HB HO K0 K1
  obtain ⟨g1, hg1⟩ : ∃ g1, w1.heap.size = g1 := ⟨_, rfl⟩
  rw [hg1] at KN HNE hz hz1
  have HG := Lib.hid hg1
  clear hg1
  go_wp2_with ((with_reducible refine store_map rfl _ _ rfl (MBox.newAt (x := ⟨28, zeroM⟩) rfl rfl) ?_ y ?_ ?_); rfl; rfl; intro w6 hM hG)
  rw [HG.out] at hM hG
  have WB := Lib.hid (WB.out.grown hG WB.out.size (fun k hk => by injection hk with hk; omega))
  have WO := Lib.hid (OwnM.grown WO.out hG (fun g hg e => HNE.out g hg (by injection e with e; exact e.symm)))
  have V0 := Lib.hid (V0.out.marked hG (fun k hk => by injection hk with hk; omega))
  have V1 := Lib.hid (V1.out.marked hG (fun k hk => by injection hk with hk; omega))
  rw [← HY.out] at hM
  have KN := Lib.hid hM
  clear hM hG HY
  rw [HG.out]
  simp only [Act.put]
  go_loopw [7, 8] (fun u p wr => ∃ (k g : Nat) (q : Option Addr) (cp : Nat), 1 ≤ k ∧ k ≤ N ∧ u = .slice q k cp ∧ p = .pointer (some ⟨g, 0, none⟩) ∧ Hid (OwnM wr (w.heap.size + 2) u k) ∧ Hid (MBox wr g ⟨28, pow m (k + 1)⟩) ∧ Hid (∀ b, u.ownBlock = some b → b ≠ g) ∧ Hid (Below w.heap.size w wr) ∧ Hid (MBox wr w.heap.size ⟨28, m⟩) ∧ Hid (MBox wr (w.heap.size + 1) ⟨28, m⟩)) (fun u _ _ => N - lenV u)
  case atStart => exact ⟨1, g1, _, _, Nat.le_refl _, HN1, rfl, rfl, WO, KN, HNE, WB, V0, V1⟩
  case round =>
    clear KN WB WO V0 V1 hz hz1 HNE HG
    obtain ⟨k, g, q, cp, h1, h2, rfl, rfl, HO, KG, HNE, HB, K0, K1⟩ := hrel
    have HX := Lib.hid (pow_ok HM.out (k + 1))
    have hat := HA.out k h1 h2
    have he := eq_runM (pow m (k + 1)) m HX.out HM.out
    have HNx := Lib.hid (pow_front HM.out (k + 1))
    obtain ⟨x, hx⟩ : ∃ x, pow m (k + 1) = x := ⟨_, rfl⟩
    rw [hx] at HX hat he HNx KG
    clear hx
    by_cases hlt : k = N
    · subst hlt
      have hat : sameM x m = true := by rw [hat]; simp
      rw [hat] at he
      clear hat
      go_wp2_with (first | ((with_reducible refine take_map rfl _ rfl KG.out ?_ ?_); rfl) | ((with_reducible refine take_map rfl _ rfl K1.out ?_ ?_); rfl))
      go_ret
      obtain ⟨xs, ho⟩ := HO.out
      exact ⟨_, rfl, ⟨xs, World.ownsRow.mono ho (by omega)⟩, HB.out⟩
    · have hat : sameM x m = false := by rw [hat]; simp [hlt]
      rw [hat] at he
      clear hat
      have hk : k < N := by omega
      clear hlt
      go_upto_region 5 with (first | ((with_reducible refine take_map rfl _ rfl KG.out ?_ ?_); rfl) | ((with_reducible refine take_map rfl _ rfl K1.out ?_ ?_); rfl))
      clear he
      go_upto_region 6 with (first | ((with_reducible refine take_map rfl _ rfl KG.out ?_ ?_); rfl) | (at_builtin; refine append_mp rfl (.tmp 22) (.tmp 24) rfl (w.heap.size + 2) _ k x _ _ rfl rfl rfl HO.out (by omega) K1.out.lt ?_; intro v1 w5 hO1 hB1 hG1 hA1))
      have KG := Lib.hid (show MBox w5 g ⟨28, x⟩ from (hG1.block g KG.out.lt (fun e => HNE.out g e.symm rfl)).trans KG.out)
      have K0 := Lib.hid (K0.out.under (by omega) hB1)
      have K1 := Lib.hid (K1.out.under (by omega) hB1)
      have HB := Lib.hid (HB.out.trans (hB1.mono (by omega)))
      have HO := Lib.hid hO1
      clear hO1 hB1 hG1 hA1 HNE
      obtain ⟨q1, c1, rfl⟩ := HO.out.form
      go_upto_region 7 with ((with_reducible refine take_map rfl _ rfl KG.out ?_ ?_); rfl)
      clear KG
      have hz := HB.out.size
      have hz1 := K1.out.lt
      have KN : Hid (MBox (w5.alloc (Mv.obj ⟨28, zeroM⟩)) w5.heap.size ⟨28, zeroM⟩) := Lib.hid (MBox.newAt rfl rfl)
      have HNE : Hid (∀ b, (Value.slice q1 (k + 1) c1).ownBlock = some b → b ≠ w5.heap.size) := Lib.hid (fun b hb => by have := (OwnM.lt HO.out b hb).2; omega)
      have HO := Lib.hid (HO.out.alloc (Mv.obj ⟨28, zeroM⟩))
      have K0 := Lib.hid (K0.out.alloc (Mv.obj ⟨28, zeroM⟩))
      have K1 := Lib.hid (K1.out.alloc (Mv.obj ⟨28, zeroM⟩))
      have HB := Lib.hid (HB.out.alloc HB.out.size (Mv.obj ⟨28, zeroM⟩))
      obtain ⟨g', hg'⟩ : ∃ g', w5.heap.size = g' := ⟨_, rfl⟩
      rw [hg'] at KN HNE hz hz1
      have HG := Lib.hid hg'
      clear hg'
      go_upto_region 4 with ((with_reducible refine store_map rfl _ _ rfl (MBox.newAt (x := ⟨28, zeroM⟩) rfl rfl) ?_ x ?_ ?_); rfl; rfl; intro w7 hM hG)
      rw [HG.out] at hM hG
      have HB := Lib.hid (HB.out.grown hG HB.out.size (fun k hk => by injection hk with hk; omega))
      have HO := Lib.hid (OwnM.grown HO.out hG (fun g hg e => HNE.out g hg (by injection e with e; exact e.symm)))
      have K0 := Lib.hid (K0.out.marked hG (fun k hk => by injection hk with hk; omega))
      have K1 := Lib.hid (K1.out.marked hG (fun k hk => by injection hk with hk; omega))
      have KN := Lib.hid hM
      clear hM hG
      try rw [HG.out]
      go_wp2_with (first | ((with_reducible refine take_map rfl _ rfl K0.out ?_ ?_); rfl) | ((with_reducible refine take_map rfl _ rfl KN.out ?_ ?_); rfl))
      refine (then_run m x _ HM.out HX.out).mono ?_
      rintro e w8 ⟨rfl, b⟩
      have HB := Lib.hid (chain0 HB.out b)
      have HO := Lib.hid (OwnM.below HO.out b)
      have K0 := Lib.hid (MBox.below K0.out b)
      have K1 := Lib.hid (MBox.below K1.out b)
      have KN := Lib.hid (MBox.below KN.out b)
      clear b
      rw [HNx.out]
      obtain ⟨y, hy⟩ : ∃ y, pow m (k + 1 + 1) = y := ⟨_, rfl⟩
      have HY := Lib.hid hy
      rw [hy]
      clear hy
      go_wp2_with ((with_reducible refine store_map rfl _ _ rfl KN.out ?_ y ?_ ?_); rfl; rfl; intro w9 hM hG)
      have HB := Lib.hid (HB.out.grown hG HB.out.size (fun k hk => by injection hk with hk; omega))
      have HO := Lib.hid (OwnM.grown HO.out hG (fun g hg e => HNE.out g hg (by injection e with e; exact e.symm)))
      have K0 := Lib.hid (K0.out.marked hG (fun k hk => by injection hk with hk; omega))
      have K1 := Lib.hid (K1.out.marked hG (fun k hk => by injection hk with hk; omega))
      rw [← HY.out] at hM
      have KN := Lib.hid hM
      clear hM hG
      simp only [Act.put]
      go_roundw
      case rel => exact ⟨k + 1, g', q1, c1, by omega, by omega, rfl, rfl, HO, KN, HNE, HB, K0, K1⟩
      case measure => simp [lenV]; omega

set_option maxRecDepth 100000 in
set_option maxHeartbeats 4000000 in
theorem impl_ord (m : Mp) (w : World) :
    Calls Try.prog 43 #[m.val] w fun e w' => e = .returned (.tuple #[.int .i64 (ordR m).1, .bool (ordR m).2]) ∧ Below w.heap.size w w' := by
  have HI := Lib.hid (fun w => is_map m w)
  have K0 : Hid (MBox (w.alloc (Mv.obj ⟨28, m⟩)) w.heap.size ⟨28, m⟩) := Lib.hid (MBox.newAt rfl rfl)
  have HB : Hid (Below w.heap.size w (w.alloc (Mv.obj ⟨28, m⟩))) := Lib.hid ((Below.refl _ _).alloc (Nat.le_refl _) _)
  go_enter Try.func43, Try.ntmps43
  go_upto_region 1 with fail
  generalize w.alloc (Mv.obj ⟨28, m⟩) = W at *
  cases hm : m.ok
  · have HT := Lib.hid (show ordR m = (0, false) by unfold ordR; rw [if_neg (by simp [hm])])
    rw [hm] at HI
    clear hm
    go_wp2_with ((with_reducible refine take_map rfl _ rfl K0.out ?_ ?_); rfl)
    refine (HI.out _).mono ?_
    rintro e w1 ⟨rfl, q⟩
    have HB := Lib.hid (chain0 HB.out q)
    clear q
    go_wp2_with fail
    go_ret2
    exact ⟨by rw [HT.out]; rfl, HB.out⟩
  · obtain ⟨N, hN⟩ : ∃ N, ordN m = N := ⟨_, rfl⟩
    have HT := Lib.hid (show ordR m = ((N : Int), true) by unfold ordR; rw [if_pos hm, hN])
    have HM := Lib.hid hm
    have HN := Lib.hid hN
    have hN2 : N ≤ 18 := by rw [← hN]; exact (ordN_spec hm).2.1
    rw [hm] at HI
    clear hm hN
    go_wp2_with ((with_reducible refine take_map rfl _ rfl K0.out ?_ ?_); rfl)
    refine (HI.out _).mono ?_
    rintro e w1 ⟨rfl, q⟩
    have HB := Lib.hid (chain0 HB.out q)
    have K0 := Lib.hid (MBox.below K0.out q)
    clear q
    go_wp2_with ((with_reducible refine take_map rfl _ rfl K0.out ?_ ?_); rfl)
    refine (round_map m N _ HM.out HN.out).mono ?_
    rintro e w2 ⟨u, rfl, hu, q⟩
    have HB := Lib.hid (chain0 HB.out q)
    clear q
    obtain ⟨p, c, rfl⟩ := hu.form
    clear hu
    go_wp2_with fail
    go_ret2
    exact ⟨by rw [HT.out]; rfl, HB.out⟩

set_option maxRecDepth 100000 in
set_option maxHeartbeats 4000000 in
theorem spec_ord (m : Mp) (w : World) :
    Calls Try.prog 42 #[m.val] w fun e w' => e = .returned (.tuple #[.int .i64 (ordR m).1, .bool (ordR m).2]) ∧ Below w.heap.size w w' := by
  have HI := Lib.hid (fun w => l5_map m w)
  have K0 : Hid (MBox (w.alloc (Mv.obj ⟨28, m⟩)) w.heap.size ⟨28, m⟩) := Lib.hid (MBox.newAt rfl rfl)
  have HB : Hid (Below w.heap.size w (w.alloc (Mv.obj ⟨28, m⟩))) := Lib.hid ((Below.refl _ _).alloc (Nat.le_refl _) _)
  go_enter Try.func42, Try.ntmps42
  go_upto_region 1 with fail
  generalize w.alloc (Mv.obj ⟨28, m⟩) = W at *
  cases hm : m.ok
  · have HT := Lib.hid (show ordR m = (0, false) by unfold ordR; rw [if_neg (by simp [hm])])
    rw [hm] at HI
    clear hm
    go_wp2_with ((with_reducible refine take_map rfl _ rfl K0.out ?_ ?_); rfl)
    refine (HI.out _).mono ?_
    rintro e w1 ⟨rfl, q⟩
    have HB := Lib.hid (chain0 HB.out q)
    clear q
    go_wp2_with fail
    go_ret2
    exact ⟨by rw [HT.out]; rfl, HB.out⟩
  · obtain ⟨N, hN⟩ : ∃ N, ordN m = N := ⟨_, rfl⟩
    have HT := Lib.hid (show ordR m = ((N : Int), true) by unfold ordR; rw [if_pos hm, hN])
    have HM := Lib.hid hm
    have hs := ordN_spec hm
    rw [hN] at hs
    have HN1 : 1 ≤ N := hs.1
    have HN2 : N ≤ 18 := hs.2.1
    have HA := Lib.hid (fun (k : Nat) (h1 : 1 ≤ k) (h2 : k ≤ N) => (by have := ord_id hm h1 (by rw [hN]; exact h2); rw [hN] at this; exact this : sameM (pow m k) idM = decide (k = N)))
    rw [hm] at HI
    clear hm hN hs
    go_wp2_with ((with_reducible refine take_map rfl _ rfl K0.out ?_ ?_); rfl)
    refine (HI.out _).mono ?_
    rintro e w1 ⟨rfl, q⟩
    have HB := Lib.hid (chain0 HB.out q)
    have K0 := Lib.hid (MBox.below K0.out q)
    clear q
    have K1 : Hid (MBox (w1.alloc (Mv.obj ⟨28, idM⟩)) w1.heap.size ⟨28, idM⟩) := Lib.hid (MBox.newAt rfl rfl)
    have K0a := K0.out.lt
    have hz := HB.out.size
    go_upto_region 4 with fail
    have K0 := Lib.hid (K0.out.alloc (Mv.obj ⟨28, idM⟩))
    have HB := Lib.hid (HB.out.alloc hz (Mv.obj ⟨28, idM⟩))
    obtain ⟨g1, hg1⟩ : ∃ g1, w1.heap.size = g1 := ⟨_, rfl⟩
    rw [hg1] at K1 K0a hz
    try rw [hg1]
    clear hg1
    generalize w1.alloc (Mv.obj ⟨28, idM⟩) = W2 at *
    have KN : Hid (MBox (W2.alloc (Mv.obj ⟨28, zeroM⟩)) W2.heap.size ⟨28, zeroM⟩) := Lib.hid (MBox.newAt rfl rfl)
    have q0 := K0.out.lt
    have q1 := K1.out.lt
    have hz2 := HB.out.size
    have KX := K0
    have K0 := Lib.hid (K0.out.alloc (Mv.obj ⟨28, zeroM⟩))
    have K1 := Lib.hid (K1.out.alloc (Mv.obj ⟨28, zeroM⟩))
    have HB := Lib.hid (HB.out.alloc HB.out.size (Mv.obj ⟨28, zeroM⟩))
    obtain ⟨g2, hg2⟩ : ∃ g2, W2.heap.size = g2 := ⟨_, rfl⟩
    rw [hg2] at KN q0 q1 hz2
    have HG := Lib.hid hg2
    clear hg2
    go_wp2_with (first | ((with_reducible refine take_map rfl _ rfl KX.out ?_ ?_); rfl) | ((with_reducible refine store_map rfl _ _ rfl (MBox.newAt (x := ⟨28, zeroM⟩) rfl rfl) ?_ m ?_ ?_); rfl; rfl; intro w6 hM hG))
    rw [HG.out] at hM hG
    have HB := Lib.hid (HB.out.grown hG HB.out.size (fun k hk => by injection hk with hk; omega))
    have K0 := Lib.hid (K0.out.marked hG (fun k hk => by injection hk with hk; omega))
    have K1 := Lib.hid (K1.out.marked hG (fun k hk => by injection hk with hk; omega))
    have KN : Hid (MBox w6 g2 ⟨28, pow m 1⟩) := Lib.hid (by rw [pow_one HM.out]; exact hM)
    clear hM hG KX
    try rw [HG.out]
    simp only [Act.put]
    go_loopw [5, 6] (fun n p wr => ∃ (k g : Nat), 1 ≤ k ∧ k ≤ N ∧ n = .int .i64 k ∧ p = .pointer (some ⟨g, 0, none⟩) ∧ Hid (MBox wr g ⟨28, pow m k⟩) ∧ Hid (Below w.heap.size w wr) ∧ Hid (MBox wr w.heap.size ⟨28, m⟩) ∧ Hid (MBox wr g1 ⟨28, idM⟩)) (fun n _ _ => N - (intOf n).toNat)
    case atStart => exact ⟨1, g2, Nat.le_refl _, HN1, rfl, rfl, KN, HB, K0, K1⟩
    case round =>
      clear KN HB K0 K1 q0 q1 hz2 HG
      obtain ⟨k, g, h1, h2, rfl, rfl, KG, HB, K0, K1⟩ := hrel
      have HX := Lib.hid (pow_ok HM.out k)
      have hat := HA.out k h1 h2
      have he := eq_runM (pow m k) idM HX.out idM_ok
      have HNx : Hid (bh (pow m k) m = pow m (k + 1)) := Lib.hid rfl
      obtain ⟨x, hx⟩ : ∃ x, pow m k = x := ⟨_, rfl⟩
      rw [hx] at HX hat he HNx KG
      clear hx
      by_cases hlt : k = N
      · subst hlt
        have hat : sameM x idM = true := by rw [hat]; simp
        rw [hat] at he
        clear hat
        go_wp2_with (first | ((with_reducible refine take_map rfl _ rfl KG.out ?_ ?_); rfl) | ((with_reducible refine take_map rfl _ rfl K1.out ?_ ?_); rfl))
        go_ret2
        exact ⟨by rw [HT.out]; rfl, HB.out⟩
      · have hat : sameM x idM = false := by rw [hat]; simp [hlt]
        rw [hat] at he
        clear hat
        have hk : k < N := by omega
        clear hlt
        go_upto_region 8 with (first | ((with_reducible refine take_map rfl _ rfl KG.out ?_ ?_); rfl) | ((with_reducible refine take_map rfl _ rfl K1.out ?_ ?_); rfl))
        clear he
        have n0 : (0 : Int) ≤ (k : Int) := by omega
        have n1 : (k : Int) ≤ 18 := by omega
        go_upto_region 10 with ((with_reducible refine take_map rfl _ rfl KG.out ?_ ?_); rfl)
        clear KG
        have hz := HB.out.size
        have q0 := K0.out.lt
        have q1 := K1.out.lt
        have KN : Hid (MBox (wr.alloc (Mv.obj ⟨28, zeroM⟩)) wr.heap.size ⟨28, zeroM⟩) := Lib.hid (MBox.newAt rfl rfl)
        have K0 := Lib.hid (K0.out.alloc (Mv.obj ⟨28, zeroM⟩))
        have K1 := Lib.hid (K1.out.alloc (Mv.obj ⟨28, zeroM⟩))
        have HB := Lib.hid (HB.out.alloc HB.out.size (Mv.obj ⟨28, zeroM⟩))
        obtain ⟨g', hg'⟩ : ∃ g', wr.heap.size = g' := ⟨_, rfl⟩
        rw [hg'] at KN hz q0 q1
        have HG := Lib.hid hg'
        clear hg'
        go_upto_region 7 with ((with_reducible refine store_map rfl _ _ rfl (MBox.newAt (x := ⟨28, zeroM⟩) rfl rfl) ?_ x ?_ ?_); rfl; rfl; intro w7 hM hG)
        rw [HG.out] at hM hG
        have HB := Lib.hid (HB.out.grown hG HB.out.size (fun k hk => by injection hk with hk; omega))
        have K0 := Lib.hid (K0.out.marked hG (fun k hk => by injection hk with hk; omega))
        have K1 := Lib.hid (K1.out.marked hG (fun k hk => by injection hk with hk; omega))
        have KN := Lib.hid hM
        clear hM hG
        try rw [HG.out]
        go_wp2_with (first | ((with_reducible refine take_map rfl _ rfl K0.out ?_ ?_); rfl) | ((with_reducible refine take_map rfl _ rfl KN.out ?_ ?_); rfl))
        refine (l5_behind x m _ HX.out HM.out).mono ?_
        rintro e w8 ⟨rfl, b⟩
        have HB := Lib.hid (chain0 HB.out b)
        have K0 := Lib.hid (MBox.below K0.out b)
        have K1 := Lib.hid (MBox.below K1.out b)
        have KN := Lib.hid (MBox.below KN.out b)
        clear b
        rw [HNx.out]
        obtain ⟨y, hy⟩ : ∃ y, pow m (k + 1) = y := ⟨_, rfl⟩
        have HY := Lib.hid hy
        rw [hy]
        clear hy
        go_wp2_with ((with_reducible refine store_map rfl _ _ rfl KN.out ?_ y ?_ ?_); rfl; rfl; intro w9 hM hG)
        have HB := Lib.hid (HB.out.grown hG HB.out.size (fun k hk => by injection hk with hk; omega))
        have K0 := Lib.hid (K0.out.marked hG (fun k hk => by injection hk with hk; omega))
        have K1 := Lib.hid (K1.out.marked hG (fun k hk => by injection hk with hk; omega))
        rw [← HY.out] at hM
        have KN := Lib.hid hM
        clear hM hG
        simp only [Act.put]
        go_roundw
        case rel => exact ⟨k + 1, g', by omega, by omega, by go_num, rfl, KN, HB, K0, K1⟩
        case measure => simp [intOf]; omega
end Go.Proofs.Ytngfdfgeoieebaa.maps
