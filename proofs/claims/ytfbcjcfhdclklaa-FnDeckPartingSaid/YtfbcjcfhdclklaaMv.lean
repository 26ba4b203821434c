/- Maps: the round of a card, the program's and the model's. -/
import Derived.Test.YtfbcjcfhdclklaaMu
import Derived.Test.YtfbcjcfhdclklaaAt
namespace Go.Proofs.Ytfbcjcfhdclklaa.maps
open Go.RowKit
open cards reg
set_option linter.unusedVariables false

def lenV : Value → Nat
  | .slice _ n _ => n
  | _ => 0

set_option maxRecDepth 100000 in
set_option maxHeartbeats 4000000 in
theorem round_card (m : Mp) (c : Cd) (N : Nat) (w : World) (hm : m.ok = true) (hc : c.ok = true) (hN : orbN m c = N) :
    Calls Try.prog 108 #[m.val, c.val, .func (.func 109) #[] #[]] w fun e w' => ∃ u, e = .returned u ∧ Own w' w.heap.size u (orbT m c N) ∧ Below w.heap.size w w' := by
  have hs := orbN_spec hm hc
  rw [hN] at hs
  have HN1 : 1 ≤ N := hs.1
  have HN2 : N ≤ 18 := hs.2.1
  have HM := Lib.hid hm
  have HC := Lib.hid hc
  have HA := Lib.hid (fun (k : Nat) (h1 : 1 ≤ k) (h2 : k ≤ N) => (by have := orb_at hm hc h1 (by rw [hN]; exact h2); rw [hN] at this; exact this : same (img (pow m k) c) c = decide (k = N)))
  clear hs hN hm hc
  have K0 : Hid (MBox ((w.alloc (Mv.obj ⟨86, m⟩)).alloc c.obj) w.heap.size ⟨86, m⟩) := Lib.hid ((MBox.newAt rfl rfl).alloc _)
  have K1 : Hid (Box ((w.alloc (Mv.obj ⟨86, m⟩)).alloc c.obj) (w.heap.size + 1) c) := Lib.hid (Box.newAt (by simp) rfl)
  have HB : Hid (Below w.heap.size w ((w.alloc (Mv.obj ⟨86, m⟩)).alloc c.obj)) := Lib.hid (((Below.refl _ _).alloc (Nat.le_refl _) _).alloc (by simp) _)
  go_enter Try.func108, Try.ntmps108
  go_upto_region 1 with fail
  generalize (w.alloc (Mv.obj ⟨86, m⟩)).alloc c.obj = W at *
  obtain ⟨k1a, k1b, k1c, k1d⟩ := K1.out.cell
  have HO := Lib.hid (Own.one W (w.heap.size + 2) K1.out.lt c)
  have HE1 := Lib.hid (orbT_one (m := m) HC.out)
  have K0 := Lib.hid (K0.out.alloc c.obj)
  have K1 := Lib.hid (K1.out.alloc c.obj)
  have HB := Lib.hid (HB.out.alloc HB.out.size c.obj)
  go_upto_region 2 with fail
  clear k1a k1b k1c k1d
  obtain ⟨g0, hg0⟩ : ∃ g, W.heap.size = g := ⟨_, rfl⟩
  rw [hg0] at HO
  try rw [hg0]
  clear hg0
  generalize W.alloc c.obj = W2 at *
  obtain ⟨k1a, k1b, k1c, k1d⟩ := K1.out.cell
  go_wp2_with ((with_reducible refine take_map rfl _ rfl K0.out ?_ ?_); rfl)
  refine (image_run m c _ HM.out HC.out).mono ?_
  rintro e w1 ⟨rfl, q⟩
  have HB := Lib.hid (chain0 HB.out q)
  have HO := Lib.hid (Own.below HO.out q)
  have K0 := Lib.hid (MBox.below K0.out q)
  have K1 := Lib.hid (Box.below K1.out q)
  clear q k1a k1b k1c k1d
  have hz := HB.out.size
  have hz1 := K1.out.lt
  have W1 : Hid (Box (w1.alloc (img m c).obj) w1.heap.size (img m c)) := Lib.hid (Box.newAt rfl rfl)
  have WB := Lib.hid (HB.out.alloc hz (img m c).obj)
  have WO := Lib.hid (HO.out.alloc (img m c).obj)
  have V0 := Lib.hid (K0.out.alloc (img m c).obj)
  have V1 := Lib.hid (K1.out.alloc (img m c).obj)
  rw [← HE1.out] at WO
  have HI1 : Hid (img (pow m 1) c = img m c) := Lib.hid (by rw [pow_one HM.out])
  rw [← HI1.out] at W1
  go_wp2_with fail
  go_loopw [7, 8] (fun u p wr => ∃ (k g : Nat) (q : Option Addr) (cp : Nat), 1 ≤ k ∧ k ≤ N ∧ u = .slice q k cp ∧ p = .pointer (some ⟨g, 0, none⟩) ∧ Hid (Own wr (w.heap.size + 2) u (orbT m c k)) ∧ Hid (Box wr g (img (pow m k) c)) ∧ Hid (∀ b, u.ownBlock = some b → b ≠ g) ∧ Hid (Below w.heap.size w wr) ∧ Hid (MBox wr w.heap.size ⟨86, m⟩) ∧ Hid (Box wr (w.heap.size + 1) c)) (fun u _ _ => N - lenV u)
  case atStart => exact ⟨1, w1.heap.size, _, _, Nat.le_refl _, HN1, rfl, rfl, WO, by rw [HI1.out] at W1 ⊢; exact W1, Lib.hid (fun b hb => by have := (World.ownsRow.lt HO.out b hb).2; omega), WB, V0, V1⟩
  case round =>
    clear W1 WB WO V0 V1 HB HO K0 K1 hz hz1
    obtain ⟨k, g, q, cp, h1, h2, rfl, rfl, HO, KG, HNE, HB, K0, K1⟩ := hrel
    have HX := Lib.hid (img_ok (pow_ok HM.out k) c)
    have hat := HA.out k h1 h2
    have he := eq_run (img (pow m k) c) c HX.out HC.out
    have HNx := Lib.hid (orb_next m c k)
    have HOs : Hid (orbT m c (k + 1) = orbT m c k ++ [img (pow m k) c]) := Lib.hid rfl
    obtain ⟨x, hx⟩ : ∃ x, img (pow m k) c = x := ⟨_, rfl⟩
    rw [hx] at HX hat he HNx HOs KG
    clear hx
    obtain ⟨kga, kgb, kgc, kgd⟩ := KG.out.cell
    obtain ⟨k1a, k1b, k1c, k1d⟩ := K1.out.cell
    by_cases hlt : k = N
    · subst hlt
      have hat : same x c = true := by rw [hat]; simp
      rw [hat] at he
      clear hat
      go_wp2_with fail
      go_ret
      exact ⟨_, rfl, Own.base HO.out (by omega), HB.out⟩
    · have hat : same x c = false := by rw [hat]; simp [hlt]
      rw [hat] at he
      clear hat
      have hk : k < N := by omega
      clear hlt
      have HLn := Lib.hid (orbT_len m c k)
      go_upto_region 5 with fail
      clear he k1a k1b k1c k1d
      go_upto_region 6 with (at_builtin; refine append_cd_at rfl (.tmp 22) (.tmp 24) rfl (w.heap.size + 2) _ (orbT m c k) x _ _ rfl rfl rfl HO.out (by rw [HLn.out]; omega) K1.out.lt ?_; intro v1 w5 hO1 hB1 hG1 hA1)
      have KG := Lib.hid (show Box w5 g x from (hG1.block g KG.out.lt (fun e => HNE.out g e.symm rfl)).trans KG.out)
      have K0 := Lib.hid (K0.out.under (by omega) hB1)
      have K1 := Lib.hid (show Box w5 (w.heap.size + 1) c from (hB1.block _ (by omega)).trans K1.out)
      have HB := Lib.hid (HB.out.trans (hB1.mono (by omega)))
      rw [← HOs.out] at hO1
      have HO := Lib.hid hO1
      clear hO1 hB1 hG1 hA1 kga kgb kgc kgd HNE
      obtain ⟨q1, c1, rfl, hq1⟩ : ∃ q1 c1, v1 = .slice q1 (k + 1) c1 ∧ True := by
        obtain ⟨q1, c1, e, _⟩ := HO.out.form
        rw [orbT_len] at e
        exact ⟨q1, c1, e, trivial⟩
      clear hq1
      obtain ⟨kga, kgb, kgc, kgd⟩ := KG.out.cell
      go_upto_region 4 with fail
      clear kga kgb kgc kgd KG
      have hz := HB.out.size
      have hz1 := K1.out.lt
      have KN : Hid (Box (w5.alloc x.obj) w5.heap.size x) := Lib.hid (Box.newAt rfl rfl)
      have HNE : Hid (∀ b, (Value.slice q1 (k + 1) c1).ownBlock = some b → b ≠ w5.heap.size) := Lib.hid (fun b hb => by have := (World.ownsRow.lt HO.out b hb).2; omega)
      have HO := Lib.hid (HO.out.alloc x.obj)
      have K0 := Lib.hid (K0.out.alloc x.obj)
      have K1 := Lib.hid (K1.out.alloc x.obj)
      have HB := Lib.hid (HB.out.alloc HB.out.size x.obj)
      obtain ⟨g', hg'⟩ : ∃ g', w5.heap.size = g' := ⟨_, rfl⟩
      rw [hg'] at KN HNE hz hz1
      try rw [hg']
      clear hg'
      generalize w5.alloc x.obj = w7 at *
      obtain ⟨kna, knb, knc, knd⟩ := KN.out.cell
      go_wp2_with ((with_reducible refine take_map rfl _ rfl K0.out ?_ ?_); rfl)
      refine (image_run m x _ HM.out HX.out).mono ?_
      rintro e w8 ⟨rfl, b⟩
      clear kna knb knc knd
      have HB := Lib.hid (chain0 HB.out b)
      have HO := Lib.hid (Own.below HO.out b)
      have K0 := Lib.hid (MBox.below K0.out b)
      have K1 := Lib.hid (Box.below K1.out b)
      have KN := Lib.hid (Box.below KN.out b)
      clear b
      rw [← HNx.out]
      obtain ⟨y, hy⟩ : ∃ y, img (pow m (k + 1)) c = y := ⟨_, rfl⟩
      have HY := Lib.hid hy
      rw [hy]
      clear hy
      obtain ⟨kna, knb, knc, knd⟩ := KN.out.cell
      have knz := KN.out.lt
      have knf := KN.out.frozen
      go_wp2_with fail
      go_roundw
      case rel => exact ⟨k + 1, g', q1, c1, by omega, by omega, rfl, rfl, Lib.hid (Own.far (Own.far (Own.far (Own.far HO.out HNE.out _) HNE.out _) HNE.out _) HNE.out _), by rw [HY.out]; exact Lib.hid (Box.set_ KN.out y), HNE, Lib.hid (by repeat (first | with_reducible exact Below.refl _ _ | with_reducible exact HB.out | with_reducible apply Below.drew | with_reducible apply bdN | with_reducible refine Below.alloc ?_ (by first | exact Nat.le_refl _ | with_reducible exact HB.out.size | omega | (simp; done) | (simp; omega) | (have := HB.out.size; simp at *; omega)) _ | with_reducible refine Below.setCell ?_ (by first | exact Nat.le_refl _ | with_reducible exact HB.out.size | omega | (simp; done) | (simp; omega) | (have := HB.out.size; simp at *; omega)) _)), Lib.hid ((((K0.out.far (by simp only; omega) _).far (by simp only; omega) _).far (by simp only; omega) _).far (by simp only; omega) _), Lib.hid ((((K1.out.far (by simp only; omega) _).far (by simp only; omega) _).far (by simp only; omega) _).far (by simp only; omega) _)⟩
      case measure => simp [lenV]; omega
end Go.Proofs.Ytfbcjcfhdclklaa.maps
