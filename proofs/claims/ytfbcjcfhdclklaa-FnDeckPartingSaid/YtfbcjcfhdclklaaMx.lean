/- Maps: OrbitOf, the program's and the model's. -/
import Derived.Test.YtfbcjcfhdclklaaMw
namespace Go.Proofs.Ytfbcjcfhdclklaa.maps
open Go.RowKit
open cards reg
set_option linter.unusedVariables false
theorem orbT_at {m : Mp} {c : Cd} {N k : Nat} (h : k < N) : (orbT m c N)[k]? = some (img (pow m k) c) := by
  induction N with
  | zero => omega
  | succ N ih =>
    show (orbT m c N ++ [_])[k]? = _
    rcases Nat.lt_or_ge k N with h1 | h1
    · rw [List.getElem?_append_left (by rw [orbT_len]; exact h1)]; exact ih h1
    · obtain rfl : k = N := by omega
      rw [List.getElem?_append_right (by rw [orbT_len]; exact Nat.le_refl _), orbT_len, Nat.sub_self]; rfl
theorem Rd.grown {w w1 : World} {g : Nat} {xs : List Value} {row : Option Nat} (h : Rd w (some ⟨g, 0, none⟩) xs) (hG : w.grownBy w1 row) (hne : row ≠ some g) : Rd w1 (some ⟨g, 0, none⟩) xs := fun hp => by
  obtain ⟨b, o, e, hlt, hc⟩ := h hp
  injection e with e
  injection e with e1 e2
  subst e1; subst e2
  refine ⟨g, 0, rfl, Nat.lt_of_lt_of_le hlt hG.size, fun j v hv => ?_⟩
  have hb := hG.block g hlt (Ne.symm hne)
  exact (World.cell?_of_block (w := w) (a := ⟨g, 0 + j, none⟩) hb).trans (hc j v hv)
/-- What OrbitOf returns. -/
noncomputable def orbR (m : Mp) (c : Cd) : List Int × Bool := if m.ok = true ∧ c.ok = true then (orbI m c (orbN m c), true) else ([], false)
theorem orbR_len (m : Mp) (c : Cd) : (orbR m c).1.length ≤ 1000 := by
  unfold orbR; split
  · rename_i h
    show (orbI m c _).length ≤ 1000
    rw [orbI_len]; have := (orbN_spec h.1 h.2).2.1; omega
  · simp

set_option maxRecDepth 100000 in
set_option maxHeartbeats 4000000 in
theorem impl_orb (m : Mp) (c : Cd) (w : World) :
    Calls Try.prog 79 #[m.val, c.val] w fun e w' => ∃ u, e = .returned (.tuple #[u, .bool (orbR m c).2]) ∧ OwnI w' w.heap.size u (orbR m c).1 ∧ Below w.heap.size w w' := by
  have HI := Lib.hid (fun w => is_map m w)
  have HJ := Lib.hid (fun w => is_card c w)
  have K0 : Hid (MBox ((w.alloc (Mv.obj ⟨86, m⟩)).alloc c.obj) w.heap.size ⟨86, m⟩) := Lib.hid ((MBox.newAt rfl rfl).alloc _)
  have K1 : Hid (Box ((w.alloc (Mv.obj ⟨86, m⟩)).alloc c.obj) (w.heap.size + 1) c) := Lib.hid (Box.newAt (by simp) rfl)
  have HB : Hid (Below w.heap.size w ((w.alloc (Mv.obj ⟨86, m⟩)).alloc c.obj)) := Lib.hid (((Below.refl _ _).alloc (Nat.le_refl _) _).alloc (by simp) _)
  go_enter Try.func79, Try.ntmps79
  go_upto_region 1 with fail
  generalize ((w.alloc (Mv.obj ⟨86, m⟩)).alloc c.obj) = W at *
  cases hm : m.ok
  · have HT := Lib.hid (show orbR m c = ([], false) by unfold orbR; rw [if_neg (by simp [hm])])
    rw [hm] at HI
    clear hm
    go_wp2_with ((with_reducible refine take_map rfl _ rfl K0.out ?_ ?_); rfl)
    refine (HI.out _).mono ?_
    rintro e w1 ⟨rfl, q⟩
    have HB := Lib.hid (chain0 HB.out q)
    clear q
    go_wp2_with fail
    go_ret2
    exact ⟨_, ret_two (by rw [HT.out]), by rw [HT.out]; exact OwnI.empty _ _ HB.out.size, by repeat (first | with_reducible exact Below.refl _ _ | with_reducible exact HB.out | with_reducible apply Below.drew | with_reducible apply bdN | with_reducible refine Below.alloc ?_ (by first | exact Nat.le_refl _ | with_reducible exact HB.out.size | omega | (simp; done) | (simp; omega) | (have := HB.out.size; simp at *; omega)) _ | with_reducible refine Below.setCell ?_ (by first | exact Nat.le_refl _ | with_reducible exact HB.out.size | omega | (simp; done) | (simp; omega) | (have := HB.out.size; simp at *; omega)) _)⟩
  · rw [hm] at HI
    go_wp2_with ((with_reducible refine take_map rfl _ rfl K0.out ?_ ?_); rfl)
    refine (HI.out _).mono ?_
    rintro e w1 ⟨rfl, q⟩
    have HB := Lib.hid (chain0 HB.out q)
    have K0 := Lib.hid (MBox.below K0.out q)
    have K1 := Lib.hid (Box.below K1.out q)
    clear q
    obtain ⟨k1a, k1b, k1c, k1d⟩ := K1.out.cell
    cases hc : c.ok
    · have HT := Lib.hid (show orbR m c = ([], false) by unfold orbR; rw [if_neg (by simp [hc])])
      rw [hc] at HJ
      clear hm hc
      go_wp2_with fail
      refine (HJ.out _).mono ?_
      rintro e w2 ⟨rfl, q⟩
      have HB := Lib.hid (chain0 HB.out q)
      clear q
      go_wp2_with fail
      go_ret2
      exact ⟨_, ret_two (by rw [HT.out]), by rw [HT.out]; exact OwnI.empty _ _ HB.out.size, by repeat (first | with_reducible exact Below.refl _ _ | with_reducible exact HB.out | with_reducible apply Below.drew | with_reducible apply bdN | with_reducible refine Below.alloc ?_ (by first | exact Nat.le_refl _ | with_reducible exact HB.out.size | omega | (simp; done) | (simp; omega) | (have := HB.out.size; simp at *; omega)) _ | with_reducible refine Below.setCell ?_ (by first | exact Nat.le_refl _ | with_reducible exact HB.out.size | omega | (simp; done) | (simp; omega) | (have := HB.out.size; simp at *; omega)) _)⟩
    · have HT := Lib.hid (show orbR m c = (orbI m c (orbN m c), true) by unfold orbR; rw [if_pos ⟨hm, hc⟩])
      have HM := Lib.hid hm
      have HC := Lib.hid hc
      rw [hc] at HJ
      clear hm hc
      obtain ⟨N, hN⟩ : ∃ N, orbN m c = N := ⟨_, rfl⟩
      have HN := Lib.hid hN
      rw [hN] at HT
      have HN2 : N ≤ 18 := by have := (orbN_spec HM.out HC.out).2.1; omega
      have HN1 : 0 < N := by have := (orbN_spec HM.out HC.out).1; omega
      clear hN
      go_wp2_with fail
      refine (HJ.out _).mono ?_
      rintro e w2 ⟨rfl, q⟩
      have HB := Lib.hid (chain0 HB.out q)
      have K0 := Lib.hid (MBox.below K0.out q)
      have K1 := Lib.hid (Box.below K1.out q)
      clear q k1a k1b k1c k1d
      obtain ⟨k1a, k1b, k1c, k1d⟩ := K1.out.cell
      go_upto_region 3 with fail
      have HO := Lib.hid (OwnI.empty w2 (w.heap.size + 2) K1.out.lt)
      have K0 := Lib.hid (K0.out.alloc (.cells #[] 3))
      have K1 := Lib.hid (K1.out.alloc (.cells #[] 3))
      have HB := Lib.hid (HB.out.alloc HB.out.size (.cells #[] 3))
      clear k1a k1b k1c k1d
      go_upto_region 4 with fail
      obtain ⟨g0, hg0⟩ : ∃ g, w2.heap.size = g := ⟨_, rfl⟩
      rw [hg0] at HO
      try rw [hg0]
      clear hg0
      generalize w2.alloc (.cells #[] 3) = W2 at *
      have HO0 := HO
      obtain ⟨k1a, k1b, k1c, k1d⟩ := K1.out.cell
      go_wp2_with ((with_reducible refine take_map rfl _ rfl K0.out ?_ ?_); rfl)
      refine (round_card m c N _ HM.out HC.out HN.out).mono ?_
      rintro e w3 ⟨u, rfl, hu, q⟩
      have HB := Lib.hid (chain0 HB.out q)
      have HO := Lib.hid (OwnI.below HO.out q)
      have hz1 := K1.out.lt
      have hz2 := q.size
      have hz : w.heap.size + 2 ≤ w3.heap.size := by omega
      clear q k1a k1b k1c k1d hz1 hz2 K0 K1
      obtain ⟨p, cp, rfl, hcp, hr, hgp⟩ := hu.form
      rw [orbT_len] at hcp hgp ⊢
      obtain ⟨gp, rfl, hgB, hgL, _⟩ := hgp HN1
      have HR0 := Lib.hid hr
      have HNE : Hid (∀ b, (Value.slice (some ⟨g0, 0, none⟩) 0 0).ownBlock = some b → b ≠ gp) := Lib.hid (fun b hb => by have := (World.ownsRow.lt HO0.out b hb).2; omega)
      clear hu hr HO0
      go_wp2_with fail
      go_loopw [6, 23] (fun o i wr => ∃ k : Nat, k ≤ N ∧ i = .int .i64 k ∧ Hid (OwnI wr (w.heap.size + 2) o (orbI m c k)) ∧ w.heap.size + 2 ≤ wr.heap.size ∧ gp < wr.heap.size ∧ Hid (∀ b, o.ownBlock = some b → b ≠ gp) ∧ Hid (Rd wr (some ⟨gp, 0, none⟩) (flat (orbT m c N))) ∧ Hid (Below w.heap.size w wr)) (fun _ i _ => N - (intOf i).toNat)
      case atStart => exact ⟨0, Nat.zero_le _, rfl, HO, hz, hgL, HNE, HR0, HB⟩
      case round =>
        clear HO HR0 HB hz HNE hgL
        obtain ⟨k, hk, rfl, HO, hz, hgL, HNE, HR0, HB⟩ := hrel
        have m0 : (0 : Int) ≤ (k : Int) := by omega
        by_cases hlt : k < N
        · obtain ⟨b, o, x, he0, hb, hx, c0, c1, c2, c3⟩ := HR0.out.card (k := k) (by rw [orbT_len]; exact hlt)
          obtain ⟨rfl, rfl⟩ : gp = b ∧ 0 = o := by injection he0 with he0; injection he0 with e1 e2; exact ⟨e1, e2⟩
          clear he0
          rw [Nat.zero_add] at c0 c1 c2 c3
          have HXok := Lib.hid (orbT_ok HM.out N x (List.mem_of_getElem? hx))
          have HX : Hid (x = img (pow m k) c) := Lib.hid (by rw [orbT_at hlt] at hx; injection hx with hx; exact hx.symm)
          have HOs := Lib.hid (orbI_succ m c k)
          rw [← HX.out] at HOs
          clear hx HX
          have HLn := Lib.hid (orbI_len m c k)
          have m1 : (k : Int) < (N : Int) := by omega
          go_upto_region 7 with fail
          clear c0 c1 c2 c3
          have KX : Hid (Box (wr.alloc x.obj) wr.heap.size x) := Lib.hid (Box.newAt rfl rfl)
          have HO := Lib.hid (HO.out.alloc x.obj)
          have HR0 := Lib.hid (Rd.alloc HR0.out x.obj)
          have HB := Lib.hid (HB.out.alloc HB.out.size x.obj)
          have hz : w.heap.size + 2 ≤ (wr.alloc x.obj).heap.size := by simp; omega
          have hgL : gp < (wr.alloc x.obj).heap.size := by simp; omega
          obtain ⟨g', hg'⟩ : ∃ g', wr.heap.size = g' := ⟨_, rfl⟩
          rw [hg'] at KX
          try rw [hg']
          clear hg'
          generalize wr.alloc x.obj = w7 at *
          obtain ⟨kna, knb, knc, knd⟩ := KX.out.cell
          go_wp2_with fail
          refine (number_of x _ HXok.out).mono ?_
          rintro e w4 ⟨rfl, q⟩
          have hzq := q.size
          have hz : w.heap.size + 2 ≤ w4.heap.size := by omega
          have hgL : gp < w4.heap.size := by omega
          have HB := Lib.hid (chain0 HB.out q)
          have HO := Lib.hid (OwnI.below HO.out q)
          have HR0 := Lib.hid (Rd.below HR0.out q)
          clear q kna knb knc knd KX hzq
          obtain ⟨nx, hnx⟩ : ∃ nx, num x = nx := ⟨_, rfl⟩
          rw [hnx] at HOs ⊢
          clear hnx
          go_wp2_with (at_builtin; refine append_int_at rfl (.tmp 27) (.tmp 30) rfl (w.heap.size + 2) _ (orbI m c k) nx _ _ rfl rfl rfl HO.out (by rw [HLn.out]; omega) hz ?_; intro v1 w5 hO1 hB1 hG1 hA1)
          rw [← HOs.out] at hO1
          go_roundw
          case rel => exact ⟨k + 1, by omega, by go_num, hO1, Nat.le_trans hz hB1.size, Nat.lt_of_lt_of_le hgL hB1.size, Lib.hid (fun b hb => by rcases hA1 with e | e; exact HNE.out b (e ▸ hb); (rw [e] at hb; injection hb with hb; omega)), Lib.hid (Rd.grown HR0.out hG1 (fun e => HNE.out gp e rfl)), HB.out.trans (hB1.mono (by omega))⟩
          case measure => simp [intOf]; omega
        · obtain rfl : k = N := by omega
          go_wp2_with fail
          go_ret2
          exact ⟨_, ret_two (by rw [HT.out]), by rw [HT.out]; exact OwnI.baseM HO.out (by omega), HB.out⟩

end Go.Proofs.Ytfbcjcfhdclklaa.maps
