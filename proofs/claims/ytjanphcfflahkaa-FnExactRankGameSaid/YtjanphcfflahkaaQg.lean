/- Piles: the program's. -/
import Derived.Test.YtjanphcfflahkaaQe
import Derived.Test.YtjanphcfflahkaaAv
namespace Go.Proofs.Ytjanphcfflahkaa.deal
open Go.RowKit
open cards
set_option linter.unusedVariables false

/-- One card is appended to a slice that is not nil. -/
theorem append_cdN {ops : Array Oper} {rest : List Oper} {o : Oper} {a : Act} {Q : Exit → Act → World → Prop} (hgd : o.guard = none) (s x : Operand)
    (ho : o.op = .call { callee := .builtin .append, args := #[s, x], argTypes := #[29, 29] }) (B : Nat) (v : Value) (l : List Cd) (q : Cd) (W : World) (g : Nat) (hg : W.heap.size = g)
    (hs : a.eval s = v) (hx : a.eval x = .slice (some ⟨g, 0, none⟩) 1 1) (hO : OwnN W B v l) (hl : l.length ≤ 1000000000 - 1) (hB : B ≤ W.heap.size)
    (h : ∀ v' w', OwnN w' B v' (l ++ [q]) → Below B W w' → wpList Try.prog ops Q rest (a.put o.dst v') w') : wpList Try.prog ops Q (o :: rest) a (W.alloc q.obj) := by
  subst hg
  refine list_append_cards hgd s x ho B v l [q] (some ⟨W.heap.size, 0, none⟩) 1 1 (W.alloc q.obj) hs hx (hO.1.alloc _) rfl ?_ (by simp) (by omega) (by simp; omega) ?_
  · exact Rd.newAt rfl rfl
  · intro v' w' h1 h2 h3 _
    exact h v' w' ⟨h1, h2 hO.2⟩ (((Below.refl _ _).alloc hB _).trans h3)

theorem deck_at {n k : Nat} (h : k < n) : (deck n)[k]? = some (cdAt (k : Int)) := by simp [deck, h]
theorem swp_eq {l : List Cd} {i j : Nat} {x y : Cd} (hx : l[i]? = some x) (hy : l[j]? = some y) : swp l i j = (l.set i y).set j x := by
  unfold swp
  rw [List.getD_eq_getElem?_getD, List.getD_eq_getElem?_getD, hx, hy]; rfl
theorem below_store {a w : World} {B g : Nat} (hb : Below B a w) (hg : B ≤ g) (i : Nat) (x : Cd) : Below B a ((((w.setCell ⟨g, i * 4, none⟩ (.int .i64 x.a)).setCell ⟨g, i * 4 + 1, none⟩ (.int .i64 x.b)).setCell ⟨g, i * 4 + 2, none⟩ (.int .i64 x.c)).setCell ⟨g, i * 4 + 3, none⟩ (.int .i64 x.d)) :=
  (((hb.setCell hg _).setCell hg _).setCell hg _).setCell hg _

set_option maxRecDepth 100000 in
set_option maxHeartbeats 4000000 in
theorem pile_from (s : Int) (w : World) (h : 0 ≤ s ∧ s ≤ 65535) :
    Calls Try.prog 133 #[.int .i64 s] w fun e w' => ∃ u, e = .returned u ∧ OwnN w' w.heap.size u (pile s) ∧ Below w.heap.size w w' := by
  have HS := Lib.hid h
  have HPl := Lib.hid (pile_is s)
  have hmk : ∀ w : World, (Instr.makeSlice 29 (.int .i64 81) (.int .i64 81)).run Try.prog w = .ok (.slice (some ⟨w.heap.size, 0, none⟩) 81 81) (w.alloc (.cells (madeCells (Value.agg #[.int .i64 0, .int .i64 0, .int .i64 0, .int .i64 0]).cells 324) 22)) := fun w => made 81 (by omega) w
  have HD := Lib.hid (deck_len 81)
  clear h
  go_enter Try.func133, Try.ntmps133
  go_wp2_with fail
  clear hmk
  go_loopw [4, 10] (fun _ i wr => ∃ (k : Nat) (z : Int), k ≤ 81 ∧ z = (k : Int) ∧ i = .int .i64 z ∧ Hid (Own wr w.heap.size (.slice (some ⟨w.heap.size, 0, none⟩) 81 81) (cards.part (deck 81) 81 k)) ∧ Hid (Below w.heap.size w wr)) (fun _ i _ => 81 - (intOf i).toNat)
  case atStart => exact ⟨0, 0, Nat.zero_le _, rfl, rfl, by rw [part_zero]; exact own_made w 81 (by omega), (Below.refl _ _).alloc (Nat.le_refl _) _⟩
  case round =>
    obtain ⟨k, z, hk, hz, rfl, HO, HB⟩ := hrel
    by_cases hlt : k < 81
    · subst hz
      have m0 : (0 : Int) ≤ (k : Int) := by omega
      have m1 : (k : Int) < 81 := by omega
      go_wp2_with fail
      refine ((card_of (k : Int) _ m0 (by omega))).mono ?_
      rintro e w1 ⟨rfl, b⟩
      have Sw1 := Lib.hid b.size
      have HB := Lib.hid (chain0 (w := w) (by repeat (first | with_reducible exact Below.refl _ _ | with_reducible exact HB.out | with_reducible apply Below.drew | with_reducible apply bdN | with_reducible refine Below.alloc ?_ (by first | exact Nat.le_refl _ | with_reducible exact HB.out.size | omega | (simp; done) | (simp; omega) | (have := HB.out.size; simp at *; omega)) _ | with_reducible refine Below.setCell ?_ (by first | exact Nat.le_refl _ | with_reducible exact HB.out.size | omega | (simp; done) | (simp; omega) | (have := HB.out.size; simp at *; omega)) _)) b)
      have HO := Lib.hid (Own.below (by repeat (first | with_reducible exact HO.out | with_reducible apply Own.drewN | with_reducible apply Own.drew | with_reducible apply Own.alloc)) b)
      clear b
      have HP := Lib.hid (part_set (n := 81) HD.out hlt (deck_at hlt))
      obtain ⟨y, hy, d0, d1, d2, d3, hf, hB, hg⟩ := HO.out.slots (part_len HD.out hk) k hlt
      have hz := HB.out.size
      clear hy
      have HSt := Lib.hid (HO.out.store (part_len HD.out hk) k hlt (cdAt (k : Int)))
      rw [HP.out] at HSt
      clear HO
      go_wp2_with fail
      go_roundw
      case rel => exact ⟨k + 1, _, by omega, rfl, by go_num, HSt, Lib.hid (by repeat (first | with_reducible exact Below.refl _ _ | with_reducible exact HB.out | with_reducible apply Below.drew | with_reducible apply bdN | with_reducible refine Below.alloc ?_ (by first | exact Nat.le_refl _ | with_reducible exact HB.out.size | omega | (simp; done) | (simp; omega) | (have := HB.out.size; simp at *; omega)) _ | with_reducible refine Below.setCell ?_ (by first | exact Nat.le_refl _ | with_reducible exact HB.out.size | omega | (simp; done) | (simp; omega) | (have := HB.out.size; simp at *; omega)) _))⟩
      case measure => simp [intOf]; omega
    · obtain rfl : k = 81 := by omega
      obtain rfl : z = 81 := hz
      rw [part_all HD.out] at HO
      go_wp2_with fail
      go_loopw [0, 5, 6] (fun t i _ wr => ∃ m k : Nat, m + k = 80 ∧ i = .int .i64 m ∧ t = .int .i64 (sdAt s k) ∧ Hid (Own wr w.heap.size (.slice (some ⟨w.heap.size, 0, none⟩) 81 81) (pst s k)) ∧ Hid (Below w.heap.size w wr)) (fun _ i _ _ => (intOf i).toNat)
      case atStart => exact ⟨80, 0, rfl, rfl, rfl, HO, HB⟩
      case round =>
        clear HO HB
        obtain ⟨m, k, hmk, rfl, rfl, HO, HB⟩ := hrel
        by_cases hpos : 0 < m
        · have m0 : (0 : Int) < (m : Int) := by omega
          have m1 : (m : Int) ≤ 80 := by omega
          have hbd := sdAt_bd HS.out (k + 1)
          obtain ⟨hq, hq2⟩ := swAt_lt HS.out (k := k) (by omega)
          rw [show 81 - (k : Int) = (m : Int) + 1 by omega] at hq
          have hlen := pst_len s k
          have e1 : pst s (k + 1) = swp (pst s k) m (swAt s k) := by rw [show m = 80 - k by omega]; rfl
          obtain ⟨q, hqq⟩ : ∃ q, swAt s k = q := ⟨_, rfl⟩
          rw [hqq] at hq hq2 e1
          have HC := Lib.hid (fun w => seed_behind (sdAt s k) w (sdAt_bd HS.out k))
          rw [show behind (sdAt s k) = sdAt s (k + 1) from rfl] at HC
          have HE := Lib.hid e1
          have HM := Lib.hid (show m = 79 - k + 1 by omega)
          have HL := Lib.hid hlen
          have HK := Lib.hid hmk
          have hq3 : q < 81 := by omega
          clear e1 hqq hlen hmk
          go_wp2_with fail
          refine ((HC.out _)).mono ?_
          rintro e w1 ⟨rfl, b⟩
          have Sw1 := Lib.hid b.size
          have HB := Lib.hid (chain0 (w := w) (by repeat (first | with_reducible exact Below.refl _ _ | with_reducible exact HB.out | with_reducible apply Below.drew | with_reducible apply bdN | with_reducible refine Below.alloc ?_ (by first | exact Nat.le_refl _ | with_reducible exact HB.out.size | omega | (simp; done) | (simp; omega) | (have := HB.out.size; simp at *; omega)) _ | with_reducible refine Below.setCell ?_ (by first | exact Nat.le_refl _ | with_reducible exact HB.out.size | omega | (simp; done) | (simp; omega) | (have := HB.out.size; simp at *; omega)) _)) b)
          have HO := Lib.hid (Own.below (by repeat (first | with_reducible exact HO.out | with_reducible apply Own.drewN | with_reducible apply Own.drew | with_reducible apply Own.alloc)) b)
          clear b
          obtain ⟨x, hx, c0, c1, c2, c3, hf, hB, hg⟩ := HO.out.slots HL.out m (by omega)
          obtain ⟨y, hy, d0, d1, d2, d3, _, _, _⟩ := HO.out.slots HL.out q hq3
          have HSt := Lib.hid ((HO.out.store HL.out m (by omega) y).store (by rw [List.length_set]; exact HL.out) q hq3 x)
          rw [← swp_eq hx hy, ← HE.out] at HSt
          have HBs := Lib.hid (below_store (below_store HB.out (Nat.le_refl _) m y) (Nat.le_refl _) q x)
          have HXY := Lib.hid (show q = m → x = y from fun e => by rw [e, hx] at hy; injection hy)
          have q0 : (0 : Int) ≤ (q : Int) := by omega
          have q1 : (q : Int) < 81 := by omega
          have hq4 := hq.symm
          obtain ⟨t, ht⟩ : ∃ t, sdAt s (k + 1) = t := ⟨_, rfl⟩
          have HT := Lib.hid ht
          rw [ht] at hq4 hbd ⊢
          obtain ⟨t0, t1⟩ := hbd
          clear hx hy HO hq ht hq2 hq3
          by_cases hmq : q = m
          · obtain rfl := HXY.out hmq
            subst hmq
            go_wp2_with fail
            go_region
            all_goals go_wp2_with fail
            go_roundw
            case rel => exact ⟨q - 1, k + 1, by have := HK.out; omega, by go_num, by rw [HT.out], Lib.hid (Own.drew HSt.out), Lib.hid HBs.out.drew⟩
            case measure => simp [intOf]; omega
          · have n1 : m < q ∨ q < m := by omega
            rcases n1 with n1 | n1
            · clear hmq
              go_wp2_with fail
              go_region
              all_goals go_wp2_with fail
              go_roundw
              case rel => exact ⟨m - 1, k + 1, by have := HK.out; omega, by go_num, by rw [HT.out], Lib.hid (Own.drew HSt.out), Lib.hid HBs.out.drew⟩
              case measure => simp [intOf]; omega
            · clear hmq
              go_wp2_with fail
              go_region
              all_goals go_wp2_with fail
              go_roundw
              case rel => exact ⟨m - 1, k + 1, by have := HK.out; omega, by go_num, by rw [HT.out], Lib.hid (Own.drew HSt.out), Lib.hid HBs.out.drew⟩
              case measure => simp [intOf]; omega
        · obtain rfl : m = 0 := by omega
          obtain rfl : k = 80 := by omega
          go_wp2_with fail
          go_ret
          exact ⟨_, rfl, by rw [HPl.out]; exact ⟨HO.out, by simp⟩, HB.out⟩
end Go.Proofs.Ytjanphcfflahkaa.deal
