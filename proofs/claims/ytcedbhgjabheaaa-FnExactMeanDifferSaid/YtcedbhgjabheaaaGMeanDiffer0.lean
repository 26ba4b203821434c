/- Merged texts: Gg. -/
import Derived.Test.YtcedbhgjabheaaaGf
/- MeanDiffer: the model's. -/
namespace Go.Proofs.Ytcedbhgjabheaaa.chance
open Go.RowKit
open cards reg
set_option linter.unusedVariables false

def dn (x y : Cd) : Nat := (dif x y).toNat
theorem dn_comm (x y : Cd) : dn x y = dn y x := by
  unfold dn dif
  simp only [ne_comm (a := x.a), ne_comm (a := x.b), ne_comm (a := x.c), ne_comm (a := x.d)]
theorem dn_le (x y : Cd) : dn x y ≤ 4 := by have := dif_nn x y; unfold dn; omega
theorem dn_int (x y : Cd) : ((dn x y : Nat) : Int) = dif x y := by have := (dif_nn x y).1; unfold dn; omega
/-- In how many traits a card differs from cards, one with the other. -/
def sm (z : Cd) (l : List Cd) : Nat := (l.map (dn z)).sum
/-- In how many traits all pairs differ. -/
def ps2 : List Cd → Nat
  | [] => 0
  | x :: r => sm x r + ps2 r
theorem sm_snoc (z x : Cd) (l : List Cd) : sm z (l ++ [x]) = sm z l + dn z x := by simp [sm]
theorem ps2_snoc (z : Cd) : ∀ l : List Cd, ps2 (l ++ [z]) = ps2 l + sm z l
  | [] => by simp [ps2, sm]
  | x :: r => by
    have h := ps2_snoc z r
    have h2 := sm_snoc x z r
    have h3 := dn_comm x z
    simp only [List.cons_append, ps2, h, h2]
    simp only [sm, List.map_cons, List.sum_cons]
    omega
theorem tot_sm (x : Cd) : ∀ r : List Cd, tot dif2 1 r [x] = sm x r
  | [] => rfl
  | y :: r => by
    rw [tot, tot_zero, tot_sm x r]
    simp only [sm, List.map_cons, List.sum_cons]
    rfl
theorem tot_ps2 : ∀ l : List Cd, tot dif2 2 l [] = ps2 l
  | [] => rfl
  | x :: r => by
    have h := tot_ps2 r
    show tot dif2 1 r [x] + tot dif2 2 r [] = sm x r + ps2 r
    rw [h, tot_sm]
theorem take_snoc {l : List Cd} {k : Nat} {x : Cd} (hx : l[k]? = some x) : l.take (k + 1) = l.take k ++ [x] := by
  rw [List.take_add_one, hx]; rfl
theorem sm_le (z : Cd) : ∀ l : List Cd, sm z l ≤ 4 * l.length
  | [] => by simp [sm]
  | x :: r => by
    have h := sm_le z r
    have h2 := dn_le z x
    simp only [sm, List.map_cons, List.sum_cons, List.length_cons] at *
    omega
theorem ps2_le : ∀ l : List Cd, ps2 l ≤ 4 * (l.length * l.length)
  | [] => by simp [ps2]
  | x :: r => by
    have h := ps2_le r
    have h2 := sm_le x r
    simp only [ps2, List.length_cons, Nat.succ_mul, Nat.mul_succ] at *
    omega

set_option maxRecDepth 100000 in
set_option maxHeartbeats 4000000 in
theorem spec_mf (l : List Cd) (p : Option Addr) (n c : Nat) (w : World) (hn : l.length = n) (hl : n ≤ 1000000000) (hr : Rd w p (flat l)) (hcp : n ≤ c) :
    Calls Try.prog 34 #[.slice p n c] w fun e w' => e = .returned (.tuple #[.agg (fv (mfR l).1), .bool (mfR l).2]) ∧ Below w.heap.size w w' := by
  have K0 : Hid (VB (w.alloc (.cells (fv (0, 0)) 24)) w.heap.size 24 (fv (0, 0))) := Lib.hid (VB.newAt rfl rfl)
  have HN := Lib.hid hn
  have HR := Lib.hid hr
  have HR0 := Lib.hid hr
  clear hn hr
  cases hh : handB l
  · have HT : Hid (mfR l = ((0, 0), false)) := Lib.hid (by unfold mfR; rw [hh]; rfl)
    have HH := Lib.hid hh
    clear hh
    go_enter Try.func34, Try.ntmps34
    go_wp2_with fail
    refine ((l2_hand l p n c _ HN.out hl (by repeat (first | with_reducible exact HR.out | with_reducible apply Rd.drewN | with_reducible apply Rd.drew | with_reducible apply Rd.alloc)))).mono ?_
    rintro e w1 ⟨rfl, b⟩
    have Sw1 := Lib.hid b.size
    have HB := Lib.hid (chain0 (w := w) (by repeat (first | with_reducible exact Below.refl _ _ | with_reducible exact HB.out | with_reducible apply Below.drew | with_reducible apply bdN | with_reducible refine Below.alloc ?_ (by first | exact Nat.le_refl _ | with_reducible exact HB.out.size | omega | (simp; done) | (simp; omega) | (have := HB.out.size; simp at *; omega)) _ | with_reducible refine Below.setCell ?_ (by first | exact Nat.le_refl _ | with_reducible exact HB.out.size | omega | (simp; done) | (simp; omega) | (have := HB.out.size; simp at *; omega)) _)) b)
    have HR := Lib.hid (Rd.below (by repeat (first | with_reducible exact HR.out | with_reducible apply Rd.drewN | with_reducible apply Rd.drew | with_reducible apply Rd.alloc)) b)
    have K0 := Lib.hid (VB.below (by repeat (first | with_reducible exact K0.out | with_reducible apply VB.drewN | with_reducible apply VB.drew | with_reducible apply VB.alloc)) b)
    clear b
    rw [HH.out]
    go_wp2_with ((with_reducible refine store_a2 rfl _ _ rfl K0.out ?_ (0, 0) ?_ ?_); rfl; rfl; intro w2 hM hG)
    try simp only [Exit.inBlock, Exit.then]
    refine bodyPost_ret (res_vb2 Try.results34 rfl hM Try.underlying24 (a2_info rfl)) rfl ?_
    exact ⟨by rw [HT.out]; rfl, HB.out.grown hG HB.out.size (fun k hk => by injection hk with hk; omega)⟩
  · have hHd := handB_true.1 hh
    have h27 : n ≤ 27 := by have := hHd.1; have := HN.out; omega
    have HH := Lib.hid hh
    by_cases h3 : n < 2
    · have HT : Hid (mfR l = ((0, 0), false)) := Lib.hid (by unfold mfR; rw [if_pos hh, mdR_0 (cho_none (by rw [HN.out]; exact h3))])
      have h3i : (n : Int) < 2 := by omega
      clear hh
      go_enter Try.func34, Try.ntmps34
      go_wp2_with fail
      refine ((l2_hand l p n c _ HN.out hl (by repeat (first | with_reducible exact HR.out | with_reducible apply Rd.drewN | with_reducible apply Rd.drew | with_reducible apply Rd.alloc)))).mono ?_
      rintro e w1 ⟨rfl, b⟩
      have Sw1 := Lib.hid b.size
      have HB := Lib.hid (chain0 (w := w) (by repeat (first | with_reducible exact Below.refl _ _ | with_reducible exact HB.out | with_reducible apply Below.drew | with_reducible apply bdN | with_reducible refine Below.alloc ?_ (by first | exact Nat.le_refl _ | with_reducible exact HB.out.size | omega | (simp; done) | (simp; omega) | (have := HB.out.size; simp at *; omega)) _ | with_reducible refine Below.setCell ?_ (by first | exact Nat.le_refl _ | with_reducible exact HB.out.size | omega | (simp; done) | (simp; omega) | (have := HB.out.size; simp at *; omega)) _)) b)
      have HR := Lib.hid (Rd.below (by repeat (first | with_reducible exact HR.out | with_reducible apply Rd.drewN | with_reducible apply Rd.drew | with_reducible apply Rd.alloc)) b)
      have K0 := Lib.hid (VB.below (by repeat (first | with_reducible exact K0.out | with_reducible apply VB.drewN | with_reducible apply VB.drew | with_reducible apply VB.alloc)) b)
      clear b
      rw [HH.out]
      go_wp2_with ((with_reducible refine store_a2 rfl _ _ rfl K0.out ?_ (0, 0) ?_ ?_); rfl; rfl; intro w2 hM hG)
      try simp only [Exit.inBlock, Exit.then]
      refine bodyPost_ret (res_vb2 Try.results34 rfl hM Try.underlying24 (a2_info rfl)) rfl ?_
      exact ⟨by rw [HT.out]; rfl, HB.out.grown hG HB.out.size (fun k hk => by injection hk with hk; omega)⟩
    · have hT : mfR l = (frac (ps2 l) (cho n 2), true) := by
        unfold mfR
        rw [if_pos hh, tot_ps2, HN.out, mdR_1 (cho_pos (by omega))]
      have hlen := ps2_le l
      have hnn : l.length * l.length ≤ 27 * 27 := by rw [HN.out]; exact Nat.mul_le_mul h27 h27
      have HCh := Lib.hid (fun w => l9_choose n 2 w (by omega) (by omega) (cho_small h27 (by omega)))
      have HCu := Lib.hid (fun w => l9_cut (ps2 l) (cho n 2) w (cho_pos (by omega)) (by omega) (Nat.le_trans (cho_27 h27) (by omega)))
      have HPs : Hid (∀ k, ps2 (l.take k) ≤ 4 * (27 * 27)) := Lib.hid (fun k => by
        have h1 := ps2_le (l.take k)
        have h2 : (l.take k).length ≤ 27 := by rw [List.length_take, HN.out]; omega
        have h3 := Nat.mul_le_mul h2 h2
        omega)
      obtain ⟨fr, hfr⟩ : ∃ fr, frac (ps2 l) (cho n 2) = fr := ⟨_, rfl⟩
      rw [hT]
      rw [hfr] at HCu ⊢
      generalize cho n 2 = D at *
      have h3i : (2 : Int) ≤ (n : Int) := by omega
      clear hh hT hlen hnn hfr hHd
      dsimp only
      go_enter Try.func34, Try.ntmps34
      go_wp2_with fail
      refine ((l2_hand l p n c _ HN.out hl (by repeat (first | with_reducible exact HR.out | with_reducible apply Rd.drewN | with_reducible apply Rd.drew | with_reducible apply Rd.alloc)))).mono ?_
      rintro e w1 ⟨rfl, b⟩
      have Sw1 := Lib.hid b.size
      have HB := Lib.hid (chain0 (w := w) (by repeat (first | with_reducible exact Below.refl _ _ | with_reducible exact HB.out | with_reducible apply Below.drew | with_reducible apply bdN | with_reducible refine Below.alloc ?_ (by first | exact Nat.le_refl _ | with_reducible exact HB.out.size | omega | (simp; done) | (simp; omega) | (have := HB.out.size; simp at *; omega)) _ | with_reducible refine Below.setCell ?_ (by first | exact Nat.le_refl _ | with_reducible exact HB.out.size | omega | (simp; done) | (simp; omega) | (have := HB.out.size; simp at *; omega)) _)) b)
      have HR := Lib.hid (Rd.below (by repeat (first | with_reducible exact HR.out | with_reducible apply Rd.drewN | with_reducible apply Rd.drew | with_reducible apply Rd.alloc)) b)
      have K0 := Lib.hid (VB.below (by repeat (first | with_reducible exact K0.out | with_reducible apply VB.drewN | with_reducible apply VB.drew | with_reducible apply VB.alloc)) b)
      clear b
      rw [HH.out]
      go_wp2_with fail
      go_loopw [4, 5] (fun s i wr => ∃ (k : Nat) (S : Int), k ≤ n ∧ i = .int .i64 k ∧ s = .int .i64 S ∧ Hid (S = (ps2 (l.take k) : Nat)) ∧ Hid (Below w.heap.size w wr) ∧ Hid (VB wr w.heap.size 24 (fv (0, 0)))) (fun _ i _ => n - (intOf i).toNat)
      case atStart => exact ⟨0, 0, Nat.zero_le _, rfl, rfl, Lib.hid (by simp [ps2]), HB, K0⟩
      case round =>
        clear HB K0
        obtain ⟨k, S, hk, rfl, rfl, HS, HB, K0⟩ := hrel
        by_cases hlt : k < n
        · obtain ⟨b, o, x, rfl, hb, hx, c0, c1, c2, c3⟩ := HR0.out.card (k := k) (by rw [HN.out]; exact hlt)
          have HX := Lib.hid hx
          have m0 : (0 : Int) ≤ (k : Int) := by omega
          have m1 : (k : Int) < (n : Int) := by omega
          have hxok := dif_nn x
          have HXC := Lib.hid (show ∀ w', Below w.heap.size w w' → w'.cell? ⟨b, o + k * 4, none⟩ = some (.int .i64 x.a) ∧ w'.cell? ⟨b, o + k * 4 + 1, none⟩ = some (.int .i64 x.b) ∧ w'.cell? ⟨b, o + k * 4 + 2, none⟩ = some (.int .i64 x.c) ∧ w'.cell? ⟨b, o + k * 4 + 3, none⟩ = some (.int .i64 x.d) from fun w' h => ⟨(h.cell (p := ⟨b, o + k * 4, none⟩) hb).trans c0, (h.cell (p := ⟨b, o + k * 4 + 1, none⟩) hb).trans c1, (h.cell (p := ⟨b, o + k * 4 + 2, none⟩) hb).trans c2, (h.cell (p := ⟨b, o + k * 4 + 3, none⟩) hb).trans c3⟩)
          have HSn : Hid ((ps2 (l.take (k + 1)) : Nat) = ps2 (l.take k) + sm x (l.take k)) := Lib.hid (by rw [take_snoc hx, ps2_snoc])
          have HBk := Lib.hid (HPs.out (k + 1))
          clear c0 c1 c2 c3 hx hxok
          go_wp2_with fail
          go_loopw [4, 6] (fun s i wr => ∃ (j : Nat) (S : Int), j ≤ k ∧ i = .int .i64 j ∧ s = .int .i64 S ∧ Hid (S = (ps2 (l.take k) + sm x (l.take j) : Nat)) ∧ Hid (Below w.heap.size w wr) ∧ Hid (VB wr w.heap.size 24 (fv (0, 0)))) (fun _ i _ => k - (intOf i).toNat)
          case atStart => exact ⟨0, S, Nat.zero_le _, rfl, rfl, Lib.hid (by rw [HS.out]; simp [sm]), HB, K0⟩
          case round =>
            clear HB K0 HS
            obtain ⟨j, S2, hj, rfl, rfl, HS, HB, K0⟩ := hrel
            by_cases hjt : j < k
            · obtain ⟨b', o', y, hbo, hb2, hy, d0, d1, d2, d3⟩ := HR0.out.card (k := j) (by rw [HN.out]; omega)
              injection hbo with hbo
              injection hbo with e1 e2
              subst e1; subst e2
              have d0 := (HB.out.cell (p := ⟨b, o + j * 4, none⟩) hb).trans d0
              have d1 := (HB.out.cell (p := ⟨b, o + j * 4 + 1, none⟩) hb).trans d1
              have d2 := (HB.out.cell (p := ⟨b, o + j * 4 + 2, none⟩) hb).trans d2
              have d3 := (HB.out.cell (p := ⟨b, o + j * 4 + 3, none⟩) hb).trans d3
              obtain ⟨c0, c1, c2, c3⟩ := HXC.out _ HB.out
              have n0 : (0 : Int) ≤ (j : Int) := by omega
              have n1 : (j : Int) < (k : Int) := by omega
              have n2 : (j : Int) < (n : Int) := by omega
              have hsj : sm x (l.take (j + 1)) = sm x (l.take j) + dn x y := by rw [take_snoc hy, sm_snoc]
              have hsb : sm x (l.take j) ≤ 4 * 27 := by
                have h1 := sm_le x (l.take j)
                have h2 : (l.take j).length ≤ 27 := by rw [List.length_take, HN.out]; omega
                omega
              have hpb := HPs.out k
              have hd := dn_int x y
              have hdl := dn_le x y
              have HD := Lib.hid (fun w => l2_differ x y w)
              rw [← hd] at HD
              have hS1 := HS.out
              generalize dn x y = q at *
              have HS3 : Hid (S2 + (q : Int) = (ps2 (l.take k) + sm x (l.take (j + 1)) : Nat)) := Lib.hid (by omega)
              have s0 : 0 ≤ S2 := by omega
              have s1 : S2 ≤ 100000 := by omega
              have q1 : (q : Int) ≤ 4 := by omega
              clear hsj hsb hpb hd hS1 HS hy hdl
              go_wp2_with fail
              have qc0 := fun d os => cell_regrown c0 d os
              have qc1 := fun d os => cell_regrown c1 d os
              have qc2 := fun d os => cell_regrown c2 d os
              have qc3 := fun d os => cell_regrown c3 d os
              have qd0 := fun d os => cell_regrown d0 d os
              have qd1 := fun d os => cell_regrown d1 d os
              have qd2 := fun d os => cell_regrown d2 d os
              have qd3 := fun d os => cell_regrown d3 d os
              refine wp_region_quiet_below (by kernel_rfl) (by kernel_rfl) ?_
              repeat (first | go_big_quiet_step ((go_at_call 70; with_reducible exact Calls.regrown_of (HD.out _))) | quiet_step ((go_at_call 70; with_reducible exact Calls.regrown_of (HD.out _))))
              refine wpQuiet_nil ?_
              intro w2 hw2
              have b : Below wr.heap.size wr w2 := by obtain ⟨r, hr⟩ := hw2; rw [hr]; exact below_regrown _ _ _
              clear hw2 qc0 qc1 qc2 qc3 qd0 qd1 qd2 qd3
              have Sw2 := Lib.hid b.size
              have HB := Lib.hid (chain0 (w := w) (by repeat (first | with_reducible exact Below.refl _ _ | with_reducible exact HB.out | with_reducible apply Below.drew | with_reducible apply bdN | with_reducible refine Below.alloc ?_ (by first | exact Nat.le_refl _ | with_reducible exact HB.out.size | omega | (simp; done) | (simp; omega) | (have := HB.out.size; simp at *; omega)) _ | with_reducible refine Below.setCell ?_ (by first | exact Nat.le_refl _ | with_reducible exact HB.out.size | omega | (simp; done) | (simp; omega) | (have := HB.out.size; simp at *; omega)) _)) b)
              have K0 := Lib.hid (VB.below (by repeat (first | with_reducible exact K0.out | with_reducible apply VB.drewN | with_reducible apply VB.drew | with_reducible apply VB.alloc)) b)
              clear b
              clear c0 c1 c2 c3 d0 d1 d2 d3
              go_wp2_with fail
              go_roundw
              case rel => exact ⟨j + 1, _, by omega, by go_num, rfl, HS3, HB, K0⟩
              case measure => simp [intOf]; omega
            · obtain rfl : j = k := by omega
              have HS3 : Hid (S2 = (ps2 (l.take (j + 1)) : Nat)) := Lib.hid (by rw [HS.out, HSn.out])
              go_wp2_with fail
              go_roundw
              case rel => exact ⟨j + 1, S2, by omega, by go_num, rfl, HS3, HB, K0⟩
              case measure => simp [intOf]; omega
        · have hkn : k = n := by omega
          subst hkn
          have hS : S = (ps2 l : Nat) := by rw [HS.out, List.take_of_length_le (by rw [HN.out]; exact Nat.le_refl _)]
          rw [← hS] at HCu
          clear hS
          go_wp2_with fail
          refine ((HCh.out _)).mono ?_
          rintro e w3 ⟨rfl, b⟩
          have Sw3 := Lib.hid b.size
          have HB := Lib.hid (chain0 (w := w) (by repeat (first | with_reducible exact Below.refl _ _ | with_reducible exact HB.out | with_reducible apply Below.drew | with_reducible apply bdN | with_reducible refine Below.alloc ?_ (by first | exact Nat.le_refl _ | with_reducible exact HB.out.size | omega | (simp; done) | (simp; omega) | (have := HB.out.size; simp at *; omega)) _ | with_reducible refine Below.setCell ?_ (by first | exact Nat.le_refl _ | with_reducible exact HB.out.size | omega | (simp; done) | (simp; omega) | (have := HB.out.size; simp at *; omega)) _)) b)
          have K0 := Lib.hid (VB.below (by repeat (first | with_reducible exact K0.out | with_reducible apply VB.drewN | with_reducible apply VB.drew | with_reducible apply VB.alloc)) b)
          clear b
          go_wp2_with fail
          refine ((HCu.out _)).mono ?_
          rintro e w4 ⟨rfl, b⟩
          have Sw4 := Lib.hid b.size
          have HB := Lib.hid (chain0 (w := w) (by repeat (first | with_reducible exact Below.refl _ _ | with_reducible exact HB.out | with_reducible apply Below.drew | with_reducible apply bdN | with_reducible refine Below.alloc ?_ (by first | exact Nat.le_refl _ | with_reducible exact HB.out.size | omega | (simp; done) | (simp; omega) | (have := HB.out.size; simp at *; omega)) _ | with_reducible refine Below.setCell ?_ (by first | exact Nat.le_refl _ | with_reducible exact HB.out.size | omega | (simp; done) | (simp; omega) | (have := HB.out.size; simp at *; omega)) _)) b)
          have K0 := Lib.hid (VB.below (by repeat (first | with_reducible exact K0.out | with_reducible apply VB.drewN | with_reducible apply VB.drew | with_reducible apply VB.alloc)) b)
          clear b
          go_wp2_with ((with_reducible refine store_a2 rfl _ _ rfl K0.out ?_ fr ?_ ?_); rfl; rfl; intro w5 hM hG)
          try simp only [Exit.inBlock, Exit.then]
          refine bodyPost_ret (res_vb2 Try.results34 rfl hM Try.underlying24 (a2_info rfl)) rfl ?_
          exact ⟨rfl, HB.out.grown hG HB.out.size (fun k hk => by injection hk with hk; omega)⟩
end Go.Proofs.Ytcedbhgjabheaaa.chance

