/- Piles: the model's. -/
import Derived.Test.YtjanphcfflahkaaQg
import Derived.Deep.CutRange
namespace Go.Proofs.Ytjanphcfflahkaa.deal
open Go.RowKit
open cards
set_option linter.unusedVariables false

theorem deck_snoc (k : Nat) : deck (k + 1) = deck k ++ [cdAt (k : Int)] := by simp [deck, List.range_succ]
set_option maxRecDepth 100000 in
theorem l2_at (n : Int) (w : World) (h0 : 0 ≤ n) (h1 : n ≤ 80) :
    Calls Try.prog 152 #[.int .i64 n] w fun e w' => e = .returned (cdAt n).val ∧ Below w.heap.size w w' := by
  go_enter Try.func152, Try.ntmps152
  go_wp2
  exact bodyPost_ret (v := (cdAt n).val) (by simp [results, Try.results152, go_sem, cdAt, *]) rfl ⟨rfl, by repeat (first | with_reducible exact Below.refl _ _ | with_reducible exact HB.out | with_reducible apply Below.drew | with_reducible apply bdN | with_reducible refine Below.alloc ?_ (by first | exact Nat.le_refl _ | with_reducible exact HB.out.size | omega | (simp; done) | (simp; omega) | (have := HB.out.size; simp at *; omega)) _ | with_reducible refine Below.setCell ?_ (by first | exact Nat.le_refl _ | with_reducible exact HB.out.size | omega | (simp; done) | (simp; omega) | (have := HB.out.size; simp at *; omega)) _)⟩

set_option maxRecDepth 100000 in
set_option maxHeartbeats 4000000 in
theorem l4_pile (s : Int) (w : World) (h : 0 ≤ s ∧ s ≤ 65535) :
    Calls Try.prog 128 #[.int .i64 s] w fun e w' => ∃ u, e = .returned u ∧ OwnN w' w.heap.size u (pile s) ∧ Below w.heap.size w w' := by
  have HS := Lib.hid h
  have HPl := Lib.hid (pile_is s)
  clear h
  go_enter Try.func128, Try.ntmps128
  go_wp2_with fail
  go_loopw [3, 4] (fun o i wr => ∃ (k : Nat) (z : Int), k ≤ 81 ∧ z = (k : Int) ∧ i = .int .i64 z ∧ Hid (OwnN wr w.heap.size o (deck k)) ∧ Hid (Below w.heap.size w wr)) (fun _ i _ => 81 - (intOf i).toNat)
  case atStart => exact ⟨0, 0, Nat.zero_le _, rfl, rfl, Lib.hid (OwnN.empty w w.heap.size (Nat.le_refl _)), Lib.hid (by repeat (first | with_reducible exact Below.refl _ _ | with_reducible exact HB.out | with_reducible apply Below.drew | with_reducible apply bdN | with_reducible refine Below.alloc ?_ (by first | exact Nat.le_refl _ | with_reducible exact HB.out.size | omega | (simp; done) | (simp; omega) | (have := HB.out.size; simp at *; omega)) _ | with_reducible refine Below.setCell ?_ (by first | exact Nat.le_refl _ | with_reducible exact HB.out.size | omega | (simp; done) | (simp; omega) | (have := HB.out.size; simp at *; omega)) _))⟩
  case round =>
    obtain ⟨k, z, hk, hz, rfl, HO, HB⟩ := hrel
    by_cases hlt : k < 81
    · subst hz
      have m0 : (0 : Int) ≤ (k : Int) := by omega
      have m1 : (k : Int) < 81 := by omega
      have HL := Lib.hid (deck_len k)
      have HNn := Lib.hid HO.out.2
      go_wp2_with fail
      refine ((l2_at (k : Int) _ m0 (by omega))).mono ?_
      rintro e w1 ⟨rfl, b⟩
      have Sw1 := Lib.hid b.size
      have HB := Lib.hid (chain0 (w := w) (by repeat (first | with_reducible exact Below.refl _ _ | with_reducible exact HB.out | with_reducible apply Below.drew | with_reducible apply bdN | with_reducible refine Below.alloc ?_ (by first | exact Nat.le_refl _ | with_reducible exact HB.out.size | omega | (simp; done) | (simp; omega) | (have := HB.out.size; simp at *; omega)) _ | with_reducible refine Below.setCell ?_ (by first | exact Nat.le_refl _ | with_reducible exact HB.out.size | omega | (simp; done) | (simp; omega) | (have := HB.out.size; simp at *; omega)) _)) b)
      have HO := Lib.hid (OwnN.below (by repeat (first | with_reducible exact HO.out | with_reducible apply OwnN.drewN | with_reducible apply OwnN.drew | with_reducible apply OwnN.alloc)) b)
      clear b
      go_wp2_with (at_builtin; refine append_cdN rfl (.tmp 14) (.tmp 17) rfl w.heap.size _ (deck k) (cdAt (k : Int)) _ _ rfl rfl rfl HO.out (by have := HL.out; omega) HB.out.size ?_; intro v1 w6 hO1 hB1)
      rw [← deck_snoc] at hO1
      go_roundw
      case rel => exact ⟨k + 1, _, by omega, rfl, by go_num, hO1, HB.out.trans hB1⟩
      case measure => simp [intOf]; omega
    · obtain rfl : k = 81 := by omega
      obtain rfl : z = 81 := hz
      obtain ⟨g, cp, rfl, hcp, _⟩ := HO.out.form
      have HO2 := Lib.hid HO.out.1
      rw [deck_len] at hcp HO2 ⊢
      have hgz := (HO2.out.span g rfl)
      have HG := Lib.hid hgz.1
      clear HO
      go_wp2_with fail
      go_loopw [0, 5, 6, 7, 8] (fun t i _ _ _ wr => ∃ m k : Nat, m + k = 80 ∧ i = .int .i64 m ∧ t = .int .i64 (sdAt s k) ∧ Hid (Own wr w.heap.size (.slice (some ⟨g, 0, none⟩) 81 cp) (pst s k)) ∧ Hid (Below w.heap.size w wr)) (fun _ i _ _ _ _ => (intOf i).toNat)
      case atStart => exact ⟨80, 0, rfl, rfl, rfl, HO2, HB⟩
      case round =>
        clear HO2 HB hgz
        obtain ⟨m, k, hmk, rfl, rfl, HO, HB⟩ := hrel
        by_cases hpos : 0 < m
        · have m0 : (0 : Int) < (m : Int) := by omega
          have m1 : (m : Int) ≤ 80 := by omega
          have hbd := sdAt_bd HS.out (k + 1)
          obtain ⟨hq, hq2⟩ := swAt_lt HS.out (k := k) (by omega)
          rw [show 81 - (k : Int) = (m : Int) + 1 by omega] at hq
          have hlen := pst_len s k
          have e1 : pst s (k + 1) = swp (pst s k) m (swAt s k) := by rw [show m = 80 - k by omega]; rfl
          obtain ⟨q, hqq⟩ : ∃ q, swAt s k = q := ⟨_, rfl⟩
          rw [hqq] at hq hq2 e1
          have HC := Lib.hid (fun w => l4_behind (sdAt s k) w (sdAt_bd HS.out k))
          rw [show behind (sdAt s k) = sdAt s (k + 1) from rfl] at HC
          have HE := Lib.hid e1
          have HL := Lib.hid hlen
          have HK := Lib.hid hmk
          have hq3 : q < 81 := by omega
          clear e1 hqq hlen hmk
          go_wp2_with fail
          refine ((HC.out _)).mono ?_
          rintro e w1 ⟨rfl, b⟩
          have Sw1 := Lib.hid b.size
          have HB := Lib.hid (chain0 (w := w) (by repeat (first | with_reducible exact Below.refl _ _ | with_reducible exact HB.out | with_reducible apply Below.drew | with_reducible apply bdN | with_reducible refine Below.alloc ?_ (by first | exact Nat.le_refl _ | with_reducible exact HB.out.size | omega | (simp; done) | (simp; omega) | (have := HB.out.size; simp at *; omega)) _ | with_reducible refine Below.setCell ?_ (by first | exact Nat.le_refl _ | with_reducible exact HB.out.size | omega | (simp; done) | (simp; omega) | (have := HB.out.size; simp at *; omega)) _)) b)
          have HO := Lib.hid (Own.below (by repeat (first | with_reducible exact HO.out | with_reducible apply Own.drewN | with_reducible apply Own.drew | with_reducible apply Own.alloc)) b)
          clear b
          obtain ⟨x, hx, c0, c1, c2, c3, hf, hB, hg⟩ := HO.out.slots HL.out m (by omega)
          obtain ⟨y, hy, d0, d1, d2, d3, _, _, _⟩ := HO.out.slots HL.out q hq3
          have q0 : (0 : Int) ≤ (q : Int) := by omega
          have q1 : (q : Int) < 81 := by omega
          have hq4 := hq.symm
          obtain ⟨t, ht⟩ : ∃ t, sdAt s (k + 1) = t := ⟨_, rfl⟩
          have HT := Lib.hid ht
          rw [ht] at hq4 hbd ⊢
          obtain ⟨t0, t1⟩ := hbd
          have HX := Lib.hid hx
          have HY := Lib.hid hy
          clear hx hy hq ht hq2
          go_upto_region 11 with fail
          go_cut [7, 8] from 19 to 45 (fun s7 s8 wx => ∃ g7 g8 : Nat, s7 = .pointer (some ⟨g7, 0, none⟩) ∧ s8 = .pointer (some ⟨g8, 0, none⟩) ∧ g < g7 ∧ g < g8 ∧ Hid (Box wx g7 x) ∧ Hid (Box wx g8 y) ∧ Hid (Own wx w.heap.size (.slice (some ⟨g, 0, none⟩) 81 cp) (pst s k)) ∧ Hid (Below w.heap.size w wx))
          case first =>
            go_region
            all_goals
              go_wp2_with fail
              go_meet
              case rel => exact ⟨_, _, rfl, rfl, by omega, by omega, Lib.hid (by repeat (first | with_reducible apply Box.drew | (with_reducible refine Box.newAt ?_ ?_ <;> first | (simp; done) | rfl) | with_reducible apply Box.alloc)), Lib.hid (by repeat (first | with_reducible apply Box.drew | (with_reducible refine Box.newAt ?_ ?_ <;> first | (simp; done) | rfl) | with_reducible apply Box.alloc)), Lib.hid ((HO.out.alloc _).alloc _).drew, Lib.hid (by repeat (first | with_reducible exact Below.refl _ _ | with_reducible exact HB.out | with_reducible apply Below.drew | with_reducible apply bdN | with_reducible refine Below.alloc ?_ (by first | exact Nat.le_refl _ | with_reducible exact HB.out.size | omega | (simp; done) | (simp; omega) | (have := HB.out.size; simp at *; omega)) _ | with_reducible refine Below.setCell ?_ (by first | exact Nat.le_refl _ | with_reducible exact HB.out.size | omega | (simp; done) | (simp; omega) | (have := HB.out.size; simp at *; omega)) _))⟩
          case rest =>
            clear HB HO c0 c1 c2 c3 d0 d1 d2 d3 hf hB hg
            obtain ⟨g7, g8, rfl, rfl, h7, h8, H7, H8, HO, HB⟩ := hcut
            obtain ⟨a0, a1, a2, a3⟩ := H7.out.cell
            obtain ⟨b0, b1, b2, b3⟩ := H8.out.cell
            obtain ⟨x2, hx, c0, c1, c2, c3, hf, hB, hg⟩ := HO.out.slots HL.out m (by omega)
            obtain ⟨y2, hy, d0, d1, d2, d3, _, _, _⟩ := HO.out.slots HL.out q hq3
            obtain rfl : x = x2 := by have := HX.out; rw [hx] at this; injection this with this; exact this.symm
            obtain rfl : y = y2 := by have := HY.out; rw [hy] at this; injection this with this; exact this.symm
            have HSt := Lib.hid ((HO.out.store HL.out m (by omega) y).store (by rw [List.length_set]; exact HL.out) q hq3 x)
            rw [← swp_eq hx hy, ← HE.out] at HSt
            have HBs := Lib.hid (below_store (below_store HB.out HG.out m y) HG.out q x)
            have HXY := Lib.hid (show q = m → x = y from fun e => by rw [e, hx] at hy; injection hy)
            have n7 := Nat.ne_of_lt h7
            have n7' := Nat.ne_of_gt h7
            have n8 := Nat.ne_of_lt h8
            have n8' := Nat.ne_of_gt h8
            clear hx hy HO
            by_cases hmq : q = m
            · obtain rfl := HXY.out hmq
              subst hmq
              go_wp2_with fail
              go_roundw
              case rel => exact ⟨q - 1, k + 1, by have := HK.out; omega, by go_num, by rw [HT.out], HSt, HBs⟩
              case measure => simp [intOf]; omega
            · have n1 : m < q ∨ q < m := by omega
              rcases n1 with n1 | n1
              · clear hmq
                go_wp2_with fail
                go_roundw
                case rel => exact ⟨m - 1, k + 1, by have := HK.out; omega, by go_num, by rw [HT.out], HSt, HBs⟩
                case measure => simp [intOf]; omega
              · clear hmq
                go_wp2_with fail
                go_roundw
                case rel => exact ⟨m - 1, k + 1, by have := HK.out; omega, by go_num, by rw [HT.out], HSt, HBs⟩
                case measure => simp [intOf]; omega
        · obtain rfl : m = 0 := by omega
          obtain rfl : k = 80 := by omega
          go_wp2_with fail
          go_ret
          exact ⟨_, rfl, by rw [HPl.out]; exact ⟨HO.out, by simp⟩, HB.out⟩
end Go.Proofs.Ytjanphcfflahkaa.deal
