/- Merged texts: G1g. -/
import Derived.Test.YtcedbhgjabheaaaG1f
/- ChanceTrait: the model's. -/
namespace Go.Proofs.Ytcedbhgjabheaaa.chance
open Go.RowKit
open cards reg parting
set_option linter.unusedVariables false

/-- The number of cards of value v, and what the first values count. -/
def cq (t : Nat) (l : List Cd) : Nat → Nat
  | 0 => cntT t 0 l
  | 1 => cntT t 1 l
  | _ => cntT t 2 l
def csum (t n : Nat) (l : List Cd) : Nat → Nat
  | 0 => 0
  | k + 1 => csum t n l k + cho (cq t l k) n
theorem csum_3 (t n : Nat) (l : List Cd) : csum t n l 3 = ctN t n l := by simp [csum, cq, ctN]
theorem cq_le (t : Nat) (l : List Cd) (k : Nat) : cq t l k ≤ l.length := by
  unfold cq
  split <;> exact cntT_le _ _ _
theorem csum_le (t n : Nat) (l : List Cd) (hl : l.length ≤ 27) : ∀ k, csum t n l k ≤ 1000000000 * k
  | 0 => by simp [csum]
  | k + 1 => by
    have h := csum_le t n l hl k
    have h2 := cho_27 (n := cq t l k) (k := n) (Nat.le_trans (cq_le t l k) hl)
    simp only [csum]; omega

set_option maxRecDepth 100000 in
set_option maxHeartbeats 4000000 in
theorem spec_ct (l : List Cd) (i j : Int) (p : Option Addr) (n c : Nat) (w : World) (hn : l.length = n) (hl : n ≤ 1000000000) (hr : Rd w p (flat l)) (hcp : n ≤ c) :
    Calls Try.prog 38 #[.slice p n c, .int .i64 i, .int .i64 j] w fun e w' => e = .returned (.tuple #[.agg (fv (ctR l i j).1), .bool (ctR l i j).2]) ∧ Below w.heap.size w w' := by
  have K0 : Hid (VB (w.alloc (.cells (fv (0, 0)) 24)) w.heap.size 24 (fv (0, 0))) := Lib.hid (VB.newAt rfl rfl)
  have HN := Lib.hid hn
  have HR := Lib.hid hr
  clear hn hr
  cases hh : handB l
  · have HT : Hid (ctR l i j = ((0, 0), false)) := Lib.hid (ctR_no (by simp [hh]))
    have HH := Lib.hid hh
    clear hh
    go_enter Try.func38, Try.ntmps38
    go_wp2_with fail
    refine ((l2_hand l p n c _ HN.out hl (by repeat (first | with_reducible exact HR.out | with_reducible apply Rd.drewN | with_reducible apply Rd.drew | with_reducible apply Rd.alloc)))).mono ?_
    rintro e w1 ⟨rfl, b⟩
    have Sw1 := Lib.hid b.size
    have HB := Lib.hid (chain0 (w := w) (by repeat (first | with_reducible exact Below.refl _ _ | with_reducible exact HB.out | with_reducible apply Below.drew | with_reducible apply bdN | with_reducible refine Below.alloc ?_ (by first | exact Nat.le_refl _ | with_reducible exact HB.out.size | omega | (simp; done) | (simp; omega) | (have := HB.out.size; simp at *; omega)) _ | with_reducible refine Below.setCell ?_ (by first | exact Nat.le_refl _ | with_reducible exact HB.out.size | omega | (simp; done) | (simp; omega) | (have := HB.out.size; simp at *; omega)) _)) b)
    have HR := Lib.hid (Rd.below (by repeat (first | with_reducible exact HR.out | with_reducible apply Rd.drewN | with_reducible apply Rd.drew | with_reducible apply Rd.alloc)) b)
    have K0 := Lib.hid (VB.below (by repeat (first | with_reducible exact K0.out | with_reducible apply VB.drewN | with_reducible apply VB.drew | with_reducible apply VB.alloc)) b)
    clear b
    rw [HH.out]
    go_wp2_with ((with_reducible refine store_a2 rfl _ _ rfl K0.out ?_ (0, 0) ?_ ?_); rfl; rfl; intro w2 hM hG)
    try simp only [Exit.inBlock, Exit.then]
    refine bodyPost_ret (res_vb2 Try.results38 rfl hM Try.underlying24 (a2_info rfl)) rfl ?_
    exact ⟨by rw [HT.out]; rfl, HB.out.grown hG HB.out.size (fun k hk => by injection hk with hk; omega)⟩
  · have hHd := handB_true.1 hh
    have h27 : n ≤ 27 := by have := hHd.1; have := HN.out; omega
    have HH := Lib.hid hh
    by_cases hi : i < 0 ∨ 3 < i
    · have HT : Hid (ctR l i j = ((0, 0), false)) := Lib.hid (ctR_no (by omega))
      have HI := Lib.hid (fun w => in_no i 0 3 w hi)
      clear hh hHd hi
      go_enter Try.func38, Try.ntmps38
      go_wp2_with fail
      refine ((l2_hand l p n c _ HN.out hl (by repeat (first | with_reducible exact HR.out | with_reducible apply Rd.drewN | with_reducible apply Rd.drew | with_reducible apply Rd.alloc)))).mono ?_
      rintro e w1 ⟨rfl, b⟩
      have Sw1 := Lib.hid b.size
      have HB := Lib.hid (chain0 (w := w) (by repeat (first | with_reducible exact Below.refl _ _ | with_reducible exact HB.out | with_reducible apply Below.drew | with_reducible apply bdN | with_reducible refine Below.alloc ?_ (by first | exact Nat.le_refl _ | with_reducible exact HB.out.size | omega | (simp; done) | (simp; omega) | (have := HB.out.size; simp at *; omega)) _ | with_reducible refine Below.setCell ?_ (by first | exact Nat.le_refl _ | with_reducible exact HB.out.size | omega | (simp; done) | (simp; omega) | (have := HB.out.size; simp at *; omega)) _)) b)
      have HR := Lib.hid (Rd.below (by repeat (first | with_reducible exact HR.out | with_reducible apply Rd.drewN | with_reducible apply Rd.drew | with_reducible apply Rd.alloc)) b)
      have K0 := Lib.hid (VB.below (by repeat (first | with_reducible exact K0.out | with_reducible apply VB.drewN | with_reducible apply VB.drew | with_reducible apply VB.alloc)) b)
      clear b
      rw [HH.out]
      go_wp2_with fail
      refine (HI.out _).mono ?_
      rintro e w' ⟨rfl, rfl⟩
      go_wp2_with ((with_reducible refine store_a2 rfl _ _ rfl K0.out ?_ (0, 0) ?_ ?_); rfl; rfl; intro w2 hM hG)
      try simp only [Exit.inBlock, Exit.then]
      refine bodyPost_ret (res_vb2 Try.results38 rfl hM Try.underlying24 (a2_info rfl)) rfl ?_
      exact ⟨by rw [HT.out]; rfl, HB.out.grown hG HB.out.size (fun k hk => by injection hk with hk; omega)⟩
    · have HI := Lib.hid (fun w => in_yes i 0 3 w (by omega) (by omega))
      by_cases hj : j < 1 ∨ 3 < j
      · have HT : Hid (ctR l i j = ((0, 0), false)) := Lib.hid (ctR_no (by omega))
        have HJ := Lib.hid (fun w => in_no j 1 3 w hj)
        clear hh hHd hi hj
        go_enter Try.func38, Try.ntmps38
        go_wp2_with fail
        refine ((l2_hand l p n c _ HN.out hl (by repeat (first | with_reducible exact HR.out | with_reducible apply Rd.drewN | with_reducible apply Rd.drew | with_reducible apply Rd.alloc)))).mono ?_
        rintro e w1 ⟨rfl, b⟩
        have Sw1 := Lib.hid b.size
        have HB := Lib.hid (chain0 (w := w) (by repeat (first | with_reducible exact Below.refl _ _ | with_reducible exact HB.out | with_reducible apply Below.drew | with_reducible apply bdN | with_reducible refine Below.alloc ?_ (by first | exact Nat.le_refl _ | with_reducible exact HB.out.size | omega | (simp; done) | (simp; omega) | (have := HB.out.size; simp at *; omega)) _ | with_reducible refine Below.setCell ?_ (by first | exact Nat.le_refl _ | with_reducible exact HB.out.size | omega | (simp; done) | (simp; omega) | (have := HB.out.size; simp at *; omega)) _)) b)
        have HR := Lib.hid (Rd.below (by repeat (first | with_reducible exact HR.out | with_reducible apply Rd.drewN | with_reducible apply Rd.drew | with_reducible apply Rd.alloc)) b)
        have K0 := Lib.hid (VB.below (by repeat (first | with_reducible exact K0.out | with_reducible apply VB.drewN | with_reducible apply VB.drew | with_reducible apply VB.alloc)) b)
        clear b
        rw [HH.out]
        go_wp2_with fail
        refine (HI.out _).mono ?_
        rintro e w' ⟨rfl, rfl⟩
        go_wp2_with fail
        refine (HJ.out _).mono ?_
        rintro e w' ⟨rfl, rfl⟩
        go_wp2_with ((with_reducible refine store_a2 rfl _ _ rfl K0.out ?_ (0, 0) ?_ ?_); rfl; rfl; intro w2 hM hG)
        try simp only [Exit.inBlock, Exit.then]
        refine bodyPost_ret (res_vb2 Try.results38 rfl hM Try.underlying24 (a2_info rfl)) rfl ?_
        exact ⟨by rw [HT.out]; rfl, HB.out.grown hG HB.out.size (fun k hk => by injection hk with hk; omega)⟩
      · have HJ := Lib.hid (fun w => in_yes j 1 3 w (by omega) (by omega))
        by_cases hlt : (n : Int) < j
        · have HT : Hid (ctR l i j = ((0, 0), false)) := Lib.hid (ctR_no (by have := HN.out; omega))
          clear hh hHd hi hj
          go_enter Try.func38, Try.ntmps38
          go_wp2_with fail
          refine ((l2_hand l p n c _ HN.out hl (by repeat (first | with_reducible exact HR.out | with_reducible apply Rd.drewN | with_reducible apply Rd.drew | with_reducible apply Rd.alloc)))).mono ?_
          rintro e w1 ⟨rfl, b⟩
          have Sw1 := Lib.hid b.size
          have HB := Lib.hid (chain0 (w := w) (by repeat (first | with_reducible exact Below.refl _ _ | with_reducible exact HB.out | with_reducible apply Below.drew | with_reducible apply bdN | with_reducible refine Below.alloc ?_ (by first | exact Nat.le_refl _ | with_reducible exact HB.out.size | omega | (simp; done) | (simp; omega) | (have := HB.out.size; simp at *; omega)) _ | with_reducible refine Below.setCell ?_ (by first | exact Nat.le_refl _ | with_reducible exact HB.out.size | omega | (simp; done) | (simp; omega) | (have := HB.out.size; simp at *; omega)) _)) b)
          have HR := Lib.hid (Rd.below (by repeat (first | with_reducible exact HR.out | with_reducible apply Rd.drewN | with_reducible apply Rd.drew | with_reducible apply Rd.alloc)) b)
          have K0 := Lib.hid (VB.below (by repeat (first | with_reducible exact K0.out | with_reducible apply VB.drewN | with_reducible apply VB.drew | with_reducible apply VB.alloc)) b)
          clear b
          rw [HH.out]
          go_wp2_with fail
          refine (HI.out _).mono ?_
          rintro e w' ⟨rfl, rfl⟩
          go_wp2_with fail
          refine (HJ.out _).mono ?_
          rintro e w' ⟨rfl, rfl⟩
          go_wp2_with ((with_reducible refine store_a2 rfl _ _ rfl K0.out ?_ (0, 0) ?_ ?_); rfl; rfl; intro w2 hM hG)
          try simp only [Exit.inBlock, Exit.then]
          refine bodyPost_ret (res_vb2 Try.results38 rfl hM Try.underlying24 (a2_info rfl)) rfl ?_
          exact ⟨by rw [HT.out]; rfl, HB.out.grown hG HB.out.size (fun k hk => by injection hk with hk; omega)⟩
        · obtain ⟨t, rfl⟩ : ∃ t : Nat, i = (t : Int) := ⟨i.toNat, by omega⟩
          obtain ⟨N, rfl⟩ : ∃ N : Nat, j = (N : Int) := ⟨j.toNat, by omega⟩
          have hT : ctR l t N = (frac (ctN t N l) (cho n N), true) := by
            unfold ctR
            rw [if_pos ⟨hh, ⟨by omega, by omega⟩, ⟨by omega, by omega⟩, by have := HN.out; omega⟩, HN.out]; rfl
          have h27l : l.length ≤ 27 := hHd.1
          have hcs := csum_le t N l h27l 3
          rw [csum_3] at hcs
          have HCl := Lib.hid (fun w (hr : Rd w p (flat l)) => l5_column l t p n c w HN.out h27 hr hHd.2.1 (by omega))
          have HCh := Lib.hid (fun w => l9_choose n N w (by omega) (by omega) (cho_small h27 (by omega)))
          have HCu := fun w => l9_cut (ctN t N l) (cho n N) w (cho_pos (by omega)) (by omega) (Nat.le_trans (cho_27 h27) (by omega))
          have HCk := Lib.hid (fun k w => l9_choose (cq t l k) N w (Nat.le_trans (cq_le t l k) (by omega)) (by omega) (cho_small (Nat.le_trans (cq_le t l k) h27l) (by omega)))
          have HLe := Lib.hid (fun k => csum_le t N l h27l k)
          have HQe := Lib.hid (fun k => Nat.le_trans (cq_le t l k) h27l)
          rw [hT]
          generalize frac (ctN t N l) (cho n N) = fr at *
          generalize cho n N = D at *
          have HCu := Lib.hid HCu
          have hN1 : 1 ≤ N ∧ N ≤ 3 := by omega
          have hN2 : (N : Int) ≤ 3 := by omega
          clear hh hT hHd hi hj hcs h27l
          dsimp only
          go_enter Try.func38, Try.ntmps38
          go_wp2_with fail
          refine ((l2_hand l p n c _ HN.out hl (by repeat (first | with_reducible exact HR.out | with_reducible apply Rd.drewN | with_reducible apply Rd.drew | with_reducible apply Rd.alloc)))).mono ?_
          rintro e w1 ⟨rfl, b⟩
          have Sw1 := Lib.hid b.size
          have HB := Lib.hid (chain0 (w := w) (by repeat (first | with_reducible exact Below.refl _ _ | with_reducible exact HB.out | with_reducible apply Below.drew | with_reducible apply bdN | with_reducible refine Below.alloc ?_ (by first | exact Nat.le_refl _ | with_reducible exact HB.out.size | omega | (simp; done) | (simp; omega) | (have := HB.out.size; simp at *; omega)) _ | with_reducible refine Below.setCell ?_ (by first | exact Nat.le_refl _ | with_reducible exact HB.out.size | omega | (simp; done) | (simp; omega) | (have := HB.out.size; simp at *; omega)) _)) b)
          have HR := Lib.hid (Rd.below (by repeat (first | with_reducible exact HR.out | with_reducible apply Rd.drewN | with_reducible apply Rd.drew | with_reducible apply Rd.alloc)) b)
          have K0 := Lib.hid (VB.below (by repeat (first | with_reducible exact K0.out | with_reducible apply VB.drewN | with_reducible apply VB.drew | with_reducible apply VB.alloc)) b)
          clear b
          rw [HH.out]
          go_wp2_with fail
          refine (HI.out _).mono ?_
          rintro e w' ⟨rfl, rfl⟩
          go_wp2_with fail
          refine (HJ.out _).mono ?_
          rintro e w' ⟨rfl, rfl⟩
          go_wp2_with fail
          refine ((HCl.out _ (by repeat (first | with_reducible exact HR.out | with_reducible apply Rd.drewN | with_reducible apply Rd.drew | with_reducible apply Rd.alloc)))).mono ?_
          rintro e w2 ⟨rfl, b⟩
          have Sw2 := Lib.hid b.size
          have HB := Lib.hid (chain0 (w := w) (by repeat (first | with_reducible exact Below.refl _ _ | with_reducible exact HB.out | with_reducible apply Below.drew | with_reducible apply bdN | with_reducible refine Below.alloc ?_ (by first | exact Nat.le_refl _ | with_reducible exact HB.out.size | omega | (simp; done) | (simp; omega) | (have := HB.out.size; simp at *; omega)) _ | with_reducible refine Below.setCell ?_ (by first | exact Nat.le_refl _ | with_reducible exact HB.out.size | omega | (simp; done) | (simp; omega) | (have := HB.out.size; simp at *; omega)) _)) b)
          have HR := Lib.hid (Rd.below (by repeat (first | with_reducible exact HR.out | with_reducible apply Rd.drewN | with_reducible apply Rd.drew | with_reducible apply Rd.alloc)) b)
          have K0 := Lib.hid (VB.below (by repeat (first | with_reducible exact K0.out | with_reducible apply VB.drewN | with_reducible apply VB.drew | with_reducible apply VB.alloc)) b)
          clear b
          have K8 : Hid (VB (w2.alloc (.cells (colV t l) 61)) w2.heap.size 61 (colV t l)) := Lib.hid (VB.newAt rfl rfl)
          have K0 := Lib.hid (K0.out.alloc (.cells (colV t l) 61))
          have HB := Lib.hid (HB.out.alloc HB.out.size (.cells (colV t l) 61))
          generalize hg8 : w2.heap.size = g8 at K8
          have HG8 := Lib.hid hg8
          go_wp2_with fail
          try rw [hg8]
          clear hg8
          go_loopw [9, 10] (fun s v wr => ∃ (k : Nat) (S : Int), k ≤ 3 ∧ v = .int .i64 k ∧ s = .int .i64 S ∧ Hid (S = (csum t N l k : Nat)) ∧ Hid (VB wr g8 61 (colV t l)) ∧ Hid (Below w.heap.size w wr) ∧ Hid (VB wr w.heap.size 24 (fv (0, 0)))) (fun _ v _ => 3 - (intOf v).toNat)
          case atStart => exact ⟨0, 0, by omega, rfl, rfl, Lib.hid rfl, K8, HB, K0⟩
          case round =>
            clear HB K0 K8
            obtain ⟨k, S, hk, rfl, rfl, HS, K8, HB, K0⟩ := hrel
            by_cases hlt3 : k < 3
            · have m0 : (0 : Int) ≤ (k : Int) := by omega
              have m1 : (k : Int) < 3 := by omega
              have hcell : wr.cell? ⟨g8, k, none⟩ = some (.int .i64 (cq t l k : Nat)) := VB.at_ K8.out (by
                match k, hlt3 with
                | 0, _ => rfl
                | 1, _ => rfl
                | 2, _ => rfl)
              have hsb := HLe.out k
              have hsb2 := HLe.out (k + 1)
              have hqb := HQe.out k
              have hS := HS.out
              have s0 : 0 ≤ S := by omega
              have s1 : S ≤ 3000000000 := by omega
              have hcs : csum t N l (k + 1) = csum t N l k + cho (cq t l k) N := rfl
              have HCq := fun w => HCk.out k w
              have hcz : cq t l k < N → cho (cq t l k) N = 0 := fun h => cho_none h
              generalize cho (cq t l k) N = z at *
              generalize cq t l k = q at *
              have hz : (z : Int) ≤ 3000000000 := by omega
              have HS2 : Hid (S + (z : Int) = (csum t N l (k + 1) : Nat)) := Lib.hid (by omega)
              have HCq := Lib.hid HCq
              by_cases hq : (N : Int) ≤ (q : Int)
              · have hw : IntKind.i64.wrap (S + (z : Int)) = S + (z : Int) := IntWalk.i64_in _ (by omega)
                clear hsb hsb2 hS hcs hcz
                go_wp2_with fail
                refine (HCq.out _).mono ?_
                rintro e w5 ⟨rfl, b⟩
                have HB := Lib.hid (chain0 (w := w) (by repeat (first | with_reducible exact Below.refl _ _ | with_reducible exact HB.out | with_reducible apply Below.drew | with_reducible apply bdN | with_reducible refine Below.alloc ?_ (by first | exact Nat.le_refl _ | with_reducible exact HB.out.size | omega | (simp; done) | (simp; omega) | (have := HB.out.size; simp at *; omega)) _ | with_reducible refine Below.setCell ?_ (by first | exact Nat.le_refl _ | with_reducible exact HB.out.size | omega | (simp; done) | (simp; omega) | (have := HB.out.size; simp at *; omega)) _)) b); have K0 := Lib.hid (VB.below (by repeat (first | with_reducible exact K0.out | with_reducible apply VB.drewN | with_reducible apply VB.drew | with_reducible apply VB.alloc)) b); have K8 := Lib.hid (VB.below (by repeat (first | with_reducible exact K8.out | with_reducible apply VB.drewN | with_reducible apply VB.drew | with_reducible apply VB.alloc)) b)
                clear b hcell
                go_wp2_with fail
                go_roundw
                case rel => exact ⟨k + 1, _, by omega, by go_num, rfl, HS2, K8, HB, K0⟩
                case measure => simp [intOf]; omega
              · have hz0 : z = 0 := hcz (by omega)
                subst hz0
                have HS3 : Hid (S = (csum t N l (k + 1) : Nat)) := Lib.hid (by have := HS2.out; simpa using this)
                clear hsb hsb2 hS hcs hcz
                go_wp2_with fail
                go_roundw
                case rel => exact ⟨k + 1, S, by omega, by go_num, rfl, HS3, K8, HB, K0⟩
                case measure => simp [intOf]; omega
            · have hk3 : k = 3 := by omega
              subst hk3
              have hS := HS.out
              rw [csum_3] at hS
              rw [← hS] at HCu
              clear hS
              go_wp2_with fail
              refine ((HCh.out _)).mono ?_
              rintro e w6 ⟨rfl, b⟩
              have Sw6 := Lib.hid b.size
              have HB := Lib.hid (chain0 (w := w) (by repeat (first | with_reducible exact Below.refl _ _ | with_reducible exact HB.out | with_reducible apply Below.drew | with_reducible apply bdN | with_reducible refine Below.alloc ?_ (by first | exact Nat.le_refl _ | with_reducible exact HB.out.size | omega | (simp; done) | (simp; omega) | (have := HB.out.size; simp at *; omega)) _ | with_reducible refine Below.setCell ?_ (by first | exact Nat.le_refl _ | with_reducible exact HB.out.size | omega | (simp; done) | (simp; omega) | (have := HB.out.size; simp at *; omega)) _)) b)
              have K0 := Lib.hid (VB.below (by repeat (first | with_reducible exact K0.out | with_reducible apply VB.drewN | with_reducible apply VB.drew | with_reducible apply VB.alloc)) b)
              clear b
              go_wp2_with fail
              refine ((HCu.out _)).mono ?_
              rintro e w7 ⟨rfl, b⟩
              have Sw7 := Lib.hid b.size
              have HB := Lib.hid (chain0 (w := w) (by repeat (first | with_reducible exact Below.refl _ _ | with_reducible exact HB.out | with_reducible apply Below.drew | with_reducible apply bdN | with_reducible refine Below.alloc ?_ (by first | exact Nat.le_refl _ | with_reducible exact HB.out.size | omega | (simp; done) | (simp; omega) | (have := HB.out.size; simp at *; omega)) _ | with_reducible refine Below.setCell ?_ (by first | exact Nat.le_refl _ | with_reducible exact HB.out.size | omega | (simp; done) | (simp; omega) | (have := HB.out.size; simp at *; omega)) _)) b)
              have K0 := Lib.hid (VB.below (by repeat (first | with_reducible exact K0.out | with_reducible apply VB.drewN | with_reducible apply VB.drew | with_reducible apply VB.alloc)) b)
              clear b
              go_wp2_with ((with_reducible refine store_a2 rfl _ _ rfl K0.out ?_ fr ?_ ?_); rfl; rfl; intro w8 hM hG)
              try simp only [Exit.inBlock, Exit.then]
              refine bodyPost_ret (res_vb2 Try.results38 rfl hM Try.underlying24 (a2_info rfl)) rfl ?_
              exact ⟨rfl, HB.out.grown hG HB.out.size (fun k hk => by injection hk with hk; omega)⟩
end Go.Proofs.Ytcedbhgjabheaaa.chance

