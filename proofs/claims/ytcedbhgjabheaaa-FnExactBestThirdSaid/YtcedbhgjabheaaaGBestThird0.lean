/- Merged texts: Gi. -/
import Derived.Test.YtcedbhgjabheaaaGh
import Derived.Test.YtcedbhgjabheaaaPw
import Derived.OwnWalk
/- BestThird: the program's and the model's. -/
namespace Go.Proofs.Ytcedbhgjabheaaa.chance
open Go.RowKit
open cards
set_option linter.unusedVariables false

/-- One card more that is looked at. -/
def better (l : List Cd) (r : Int × Int) (x : Cd) : Int × Int := if r.2 < thr l x l.length then (num x, thr l x l.length) else r
noncomputable def bestOf (l : List Cd) (m : List Cd) : Int × Int := m.foldl (better l) (0, -1)
theorem best_snoc (l m : List Cd) (x : Cd) : bestOf l (m ++ [x]) = better l (bestOf l m) x := by simp [bestOf]
theorem best_most (l : List Cd) : ∀ m : List Cd, -1 ≤ (bestOf l m).2 ∧ (bestOf l m).2 ≤ l.length := by
  have h : ∀ (m : List Cd) (r : Int × Int), -1 ≤ r.2 ∧ r.2 ≤ l.length → -1 ≤ (m.foldl (better l) r).2 ∧ (m.foldl (better l) r).2 ≤ l.length := by
    intro m
    induction m with
    | nil => intro r hr; exact hr
    | cons x m ih =>
      intro r hr
      refine ih _ ?_
      have h := thr_bd l x l.length
      unfold better
      split <;> (try simp only) <;> omega
  intro m
  exact h m (0, -1) (by simp only; omega)
noncomputable def btR (l : List Cd) : Int × Int × Bool := if handB l = true then ((bestOf l (rst l 81)).1, (bestOf l (rst l 81)).2, true) else (0, 0, false)
theorem take_snoc9 {l : List Cd} {k : Nat} {x : Cd} (hx : l[k]? = some x) : l.take (k + 1) = l.take k ++ [x] := by
  rw [List.take_add_one, hx]; rfl
theorem ret_iib {a b c d : Int} {x y : Bool} (h1 : a = b) (h2 : c = d) (h3 : x = y) : Ending.returned (.tuple #[.int .i64 a, .int .i64 c, .bool x]) = .returned (.tuple #[.int .i64 b, .int .i64 d, .bool y]) := by rw [h1, h2, h3]

set_option maxRecDepth 100000 in
set_option maxHeartbeats 4000000 in
theorem impl_bt (l : List Cd) (p : Option Addr) (n c : Nat) (w : World) (hn : l.length = n) (hl : n ≤ 1000000000) (hr : Rd w p (flat l)) (hcp : n ≤ c) :
    Calls Try.prog 37 #[.slice p n c] w fun e w' => e = .returned (.tuple #[.int .i64 (btR l).1, .int .i64 (btR l).2.1, .bool (btR l).2.2]) ∧ Below w.heap.size w w' := by
  have HN := Lib.hid hn
  have HR := Lib.hid hr
  have HR0 := Lib.hid hr
  clear hn hr
  go_enter Try.func37, Try.ntmps37
  go_wp2_with fail
  refine ((is_hand l p n c _ HN.out hl (by repeat (first | with_reducible exact HR.out | with_reducible apply Rd.drewN | with_reducible apply Rd.drew | with_reducible apply Rd.alloc)))).mono ?_
  rintro e w1 ⟨rfl, b⟩
  have Sw1 := Lib.hid b.size
  have HB := Lib.hid (chain0 (w := w) (by repeat (first | with_reducible exact Below.refl _ _ | with_reducible exact HB.out | with_reducible apply Below.drew | with_reducible apply bdN | with_reducible refine Below.alloc ?_ (by first | exact Nat.le_refl _ | with_reducible exact HB.out.size | omega | (simp; done) | (simp; omega) | (have := HB.out.size; simp at *; omega)) _ | with_reducible refine Below.setCell ?_ (by first | exact Nat.le_refl _ | with_reducible exact HB.out.size | omega | (simp; done) | (simp; omega) | (have := HB.out.size; simp at *; omega)) _)) b)
  have HR := Lib.hid (Rd.below (by repeat (first | with_reducible exact HR.out | with_reducible apply Rd.drewN | with_reducible apply Rd.drew | with_reducible apply Rd.alloc)) b)
  clear b
  cases hh : handB l
  · have HT : Hid (btR l = (0, 0, false)) := Lib.hid (by unfold btR; rw [hh]; rfl)
    go_wp2_with fail
    go_ret3
    exact ⟨by rw [HT.out]; rfl, HB.out⟩
  · have hHd := handB_true.1 hh
    have h27 : n ≤ 27 := by have := hHd.1; have := HN.out; omega
    have HK := Lib.hid hHd.2.1
    have HS := Lib.hid hHd.2.2
    have HT : Hid (btR l = ((bestOf l (rst l 81)).1, (bestOf l (rst l 81)).2, true)) := Lib.hid (by unfold btR; rw [if_pos hh])
    have HRo := Lib.hid (rst_ok l (Nat.le_refl 81))
    have HRl := Lib.hid (rst_len l 81)
    have HRt := fun w (hr : Rd w p (flat l)) => rest_of l p n c w HN.out (by omega) hr hHd.2.1 hHd.2.2
    generalize rst l 81 = L at *
    obtain ⟨m, hm⟩ : ∃ m, L.length = m := ⟨_, rfl⟩
    have HMl := Lib.hid hm
    have hm81 : m ≤ 81 := by have := HRl.out; omega
    have HRt := Lib.hid HRt
    clear hh hHd hm
    go_wp2_with fail
    refine (HRt.out _ (by repeat (first | with_reducible exact HR.out | with_reducible apply Rd.drewN | with_reducible apply Rd.drew | with_reducible apply Rd.alloc))).mono ?_
    rintro e w2 ⟨u, rfl, hu, b⟩
    have HB := Lib.hid (chain0 (w := w) (by repeat (first | with_reducible exact Below.refl _ _ | with_reducible exact HB.out | with_reducible apply Below.drew | with_reducible apply bdN | with_reducible refine Below.alloc ?_ (by first | exact Nat.le_refl _ | with_reducible exact HB.out.size | omega | (simp; done) | (simp; omega) | (have := HB.out.size; simp at *; omega)) _ | with_reducible refine Below.setCell ?_ (by first | exact Nat.le_refl _ | with_reducible exact HB.out.size | omega | (simp; done) | (simp; omega) | (have := HB.out.size; simp at *; omega)) _)) b); have HR := Lib.hid (Rd.below (by repeat (first | with_reducible exact HR.out | with_reducible apply Rd.drewN | with_reducible apply Rd.drew | with_reducible apply Rd.alloc)) b)
    have HO : Hid (Own w2 w.heap.size u L) := Lib.hid (hu.base (by have := Sw1.out; omega))
    clear hu b
    obtain ⟨pu, cu, rfl, hcu, _, _⟩ := HO.out.form
    rw [HMl.out] at HO hcu ⊢
    go_wp2_with fail
    go_loopw [5, 6, 16] (fun b0 m0 i wr => ∃ (k : Nat) (B M : Int), k ≤ m ∧ i = .int .i64 k ∧ b0 = .int .i64 B ∧ m0 = .int .i64 M ∧ Hid ((B, M) = bestOf l (L.take k)) ∧ Hid (Own wr w.heap.size (.slice pu m cu) L) ∧ Hid (Below w.heap.size w wr)) (fun _ _ i _ => m - (intOf i).toNat)
    case atStart => exact ⟨0, 0, -1, Nat.zero_le _, rfl, rfl, rfl, Lib.hid rfl, HO, HB⟩
    case round =>
      clear HB HO
      obtain ⟨k, B, M, hk, rfl, rfl, rfl, HBM, HO, HB⟩ := hrel
      have hmb := best_most l (L.take k)
      rw [← HBM.out] at hmb
      simp only at hmb
      have hM1 : -1 ≤ M := hmb.1
      have hM2 : M ≤ 27 := by have := hmb.2; have := HN.out; omega
      clear hmb
      by_cases hlt : k < m
      · have HR := Lib.hid (HR0.out.below HB.out)
        obtain ⟨b, o, x, rfl, hb, hx, c0, c1, c2, c3⟩ := (Own.rd HO.out).card (k := k) (by rw [HMl.out]; exact hlt)
        have HX := Lib.hid (ok_at HRo.out hx)
        have m0 : (0 : Int) ≤ (k : Int) := by omega
        have m1 : (k : Int) < (m : Int) := by omega
        have hst : bestOf l (L.take (k + 1)) = better l (B, M) x := by rw [take_snoc9 hx, best_snoc, ← HBM.out]
        have hlen := prs_len l x n
        have hth := thr_bd l x n
        have HP := Lib.hid (fun w' (hr : Rd w' p (flat l)) => pairs_with l x p n c w' HN.out (by omega) hr HK.out HX.out HS.out)
        unfold better at hst
        rw [HN.out] at hst
        generalize thr l x n = t at *
        have HLn := Lib.hid hlen
        have HSt := Lib.hid hst
        have HNo := Lib.hid (fun w => number_of x w HX.out)
        have t0 : 0 ≤ t := hth.1
        have t1 : t ≤ 27 := by omega
        have HS0 := Lib.hid hb
        clear hx hst hlen hth HBM
        go_wp2_with fail
        refine ((HP.out _ (by repeat (first | with_reducible exact HR.out | with_reducible apply Rd.drewN | with_reducible apply Rd.drew | with_reducible apply Rd.alloc)))).mono ?_
        rintro e w4 ⟨u4, rfl, o4, b⟩
        have Sw4 := Lib.hid b.size
        have HB := Lib.hid (chain0 (w := w) (by repeat (first | with_reducible exact Below.refl _ _ | with_reducible exact HB.out | with_reducible apply Below.drew | with_reducible apply bdN | with_reducible refine Below.alloc ?_ (by first | exact Nat.le_refl _ | with_reducible exact HB.out.size | omega | (simp; done) | (simp; omega) | (have := HB.out.size; simp at *; omega)) _ | with_reducible refine Below.setCell ?_ (by first | exact Nat.le_refl _ | with_reducible exact HB.out.size | omega | (simp; done) | (simp; omega) | (have := HB.out.size; simp at *; omega)) _)) b)
        have HO := Lib.hid (Own.below (by repeat (first | with_reducible exact HO.out | with_reducible apply Own.drewN | with_reducible apply Own.drew | with_reducible apply Own.alloc)) b)
        have HR := Lib.hid (Rd.below (by repeat (first | with_reducible exact HR.out | with_reducible apply Rd.drewN | with_reducible apply Rd.drew | with_reducible apply Rd.alloc)) b)
        have K1 : Hid (Box _ (wr.heap.size) (x)) := Lib.hid (Box.below (by repeat (first | with_reducible exact K1.out | with_reducible apply Box.drewN | with_reducible apply Box.drew | (with_reducible refine Box.newAt ?_ ?_ <;> first | (simp; done) | rfl) | with_reducible apply Box.alloc)) b)
        try clear k1a k1b k1c k1d k1z
        have k1z := K1.out.lt
        obtain ⟨k1a, k1b, k1c, k1d⟩ := K1.out.cell
        clear b
        obtain ⟨p4, c4, rfl, _, _, _⟩ := o4.form
        clear o4
        have HLn4 := HLn.out
        generalize (prs l x n).length = z at *
        by_cases hgt : M < t
        · have hgz : M < (z : Int) := by omega
          have HSt2 : Hid ((num x, t) = bestOf l (L.take (k + 1))) := Lib.hid (by rw [HSt.out, if_pos hgt])
          go_wp2_with fail
          refine (HNo.out _).mono ?_
          rintro e w5 ⟨rfl, b⟩
          have HB := Lib.hid (chain0 (w := w) (by repeat (first | with_reducible exact Below.refl _ _ | with_reducible exact HB.out | with_reducible apply Below.drew | with_reducible apply bdN | with_reducible refine Below.alloc ?_ (by first | exact Nat.le_refl _ | with_reducible exact HB.out.size | omega | (simp; done) | (simp; omega) | (have := HB.out.size; simp at *; omega)) _ | with_reducible refine Below.setCell ?_ (by first | exact Nat.le_refl _ | with_reducible exact HB.out.size | omega | (simp; done) | (simp; omega) | (have := HB.out.size; simp at *; omega)) _)) b); have HO := Lib.hid (Own.below (by repeat (first | with_reducible exact HO.out | with_reducible apply Own.drewN | with_reducible apply Own.drew | with_reducible apply Own.alloc)) b); have HR := Lib.hid (Rd.below (by repeat (first | with_reducible exact HR.out | with_reducible apply Rd.drewN | with_reducible apply Rd.drew | with_reducible apply Rd.alloc)) b); have K1 : Hid (Box _ (wr.heap.size) (x)) := Lib.hid (Box.below (by repeat (first | with_reducible exact K1.out | with_reducible apply Box.drewN | with_reducible apply Box.drew | (with_reducible refine Box.newAt ?_ ?_ <;> first | (simp; done) | rfl) | with_reducible apply Box.alloc)) b); obtain ⟨k1a, k1b, k1c, k1d⟩ := K1.out.cell; have k1z := K1.out.lt
          clear b
          go_wp2_with fail
          go_roundw
          case rel => exact ⟨k + 1, num x, t, by omega, by go_num, rfl, by first | rfl | rw [HLn4], HSt2, HO, HB⟩
          case measure => simp [intOf]; omega
        · have hgz : ¬ M < (z : Int) := by omega
          have HSt2 : Hid ((B, M) = bestOf l (L.take (k + 1))) := Lib.hid (by rw [HSt.out, if_neg hgt])
          go_wp2_with fail
          go_roundw
          case rel => exact ⟨k + 1, B, M, by omega, by go_num, rfl, rfl, HSt2, HO, HB⟩
          case measure => simp [intOf]; omega
      · have hkm : k = m := by omega
        subst hkm
        rw [List.take_of_length_le (by rw [HMl.out]; exact Nat.le_refl _)] at HBM
        go_wp2_with fail
        go_ret3
        exact ⟨by rw [HT.out, ← HBM.out]; rfl, HB.out⟩
set_option maxRecDepth 100000 in
set_option maxHeartbeats 4000000 in
theorem spec_bt (l : List Cd) (p : Option Addr) (n c : Nat) (w : World) (hn : l.length = n) (hl : n ≤ 1000000000) (hr : Rd w p (flat l)) (hcp : n ≤ c) :
    Calls Try.prog 36 #[.slice p n c] w fun e w' => e = .returned (.tuple #[.int .i64 (btR l).1, .int .i64 (btR l).2.1, .bool (btR l).2.2]) ∧ Below w.heap.size w w' := by
  have HN := Lib.hid hn
  have HR := Lib.hid hr
  have HR0 := Lib.hid hr
  clear hn hr
  go_enter Try.func36, Try.ntmps36
  go_wp2_with fail
  refine ((l2_hand l p n c _ HN.out hl (by repeat (first | with_reducible exact HR.out | with_reducible apply Rd.drewN | with_reducible apply Rd.drew | with_reducible apply Rd.alloc)))).mono ?_
  rintro e w1 ⟨rfl, b⟩
  have Sw1 := Lib.hid b.size
  have HB := Lib.hid (chain0 (w := w) (by repeat (first | with_reducible exact Below.refl _ _ | with_reducible exact HB.out | with_reducible apply Below.drew | with_reducible apply bdN | with_reducible refine Below.alloc ?_ (by first | exact Nat.le_refl _ | with_reducible exact HB.out.size | omega | (simp; done) | (simp; omega) | (have := HB.out.size; simp at *; omega)) _ | with_reducible refine Below.setCell ?_ (by first | exact Nat.le_refl _ | with_reducible exact HB.out.size | omega | (simp; done) | (simp; omega) | (have := HB.out.size; simp at *; omega)) _)) b)
  have HR := Lib.hid (Rd.below (by repeat (first | with_reducible exact HR.out | with_reducible apply Rd.drewN | with_reducible apply Rd.drew | with_reducible apply Rd.alloc)) b)
  clear b
  cases hh : handB l
  · have HT : Hid (btR l = (0, 0, false)) := Lib.hid (by unfold btR; rw [hh]; rfl)
    go_wp2_with fail
    go_ret3
    exact ⟨by rw [HT.out]; rfl, HB.out⟩
  · have hHd := handB_true.1 hh
    have h27 : n ≤ 27 := by have := hHd.1; have := HN.out; omega
    have HK := Lib.hid hHd.2.1
    have HS := Lib.hid hHd.2.2
    have HT : Hid (btR l = ((bestOf l (rst l 81)).1, (bestOf l (rst l 81)).2, true)) := Lib.hid (by unfold btR; rw [if_pos hh])
    have HRo := Lib.hid (rst_ok l (Nat.le_refl 81))
    have HRl := Lib.hid (rst_len l 81)
    have HRt := fun w (hr : Rd w p (flat l)) => l9_rest l p n c w HN.out (by omega) hr hHd.2.1 hHd.2.2
    generalize rst l 81 = L at *
    obtain ⟨m, hm⟩ : ∃ m, L.length = m := ⟨_, rfl⟩
    have HMl := Lib.hid hm
    have hm81 : m ≤ 81 := by have := HRl.out; omega
    have HRt := Lib.hid HRt
    clear hh hHd hm
    go_wp2_with fail
    refine (HRt.out _ (by repeat (first | with_reducible exact HR.out | with_reducible apply Rd.drewN | with_reducible apply Rd.drew | with_reducible apply Rd.alloc))).mono ?_
    rintro e w2 ⟨u, rfl, hu, b⟩
    have HB := Lib.hid (chain0 (w := w) (by repeat (first | with_reducible exact Below.refl _ _ | with_reducible exact HB.out | with_reducible apply Below.drew | with_reducible apply bdN | with_reducible refine Below.alloc ?_ (by first | exact Nat.le_refl _ | with_reducible exact HB.out.size | omega | (simp; done) | (simp; omega) | (have := HB.out.size; simp at *; omega)) _ | with_reducible refine Below.setCell ?_ (by first | exact Nat.le_refl _ | with_reducible exact HB.out.size | omega | (simp; done) | (simp; omega) | (have := HB.out.size; simp at *; omega)) _)) b); have HR := Lib.hid (Rd.below (by repeat (first | with_reducible exact HR.out | with_reducible apply Rd.drewN | with_reducible apply Rd.drew | with_reducible apply Rd.alloc)) b)
    have HO : Hid (Own w2 w.heap.size u L) := Lib.hid (hu.base (by have := Sw1.out; omega))
    clear hu b
    obtain ⟨pu, cu, rfl, hcu, _, _⟩ := HO.out.form
    rw [HMl.out] at HO hcu ⊢
    go_wp2_with fail
    go_loopw [6, 7, 8] (fun b0 m0 i wr => ∃ (k : Nat) (B M : Int), k ≤ m ∧ i = .int .i64 k ∧ b0 = .int .i64 B ∧ m0 = .int .i64 M ∧ Hid ((B, M) = bestOf l (L.take k)) ∧ Hid (Own wr w.heap.size (.slice pu m cu) L) ∧ Hid (Below w.heap.size w wr)) (fun _ _ i _ => m - (intOf i).toNat)
    case atStart => exact ⟨0, 0, -1, Nat.zero_le _, rfl, rfl, rfl, Lib.hid rfl, HO, HB⟩
    case round =>
      clear HB HO
      obtain ⟨k, B, M, hk, rfl, rfl, rfl, HBM, HO, HB⟩ := hrel
      have hmb := best_most l (L.take k)
      rw [← HBM.out] at hmb
      simp only at hmb
      have hM1 : -1 ≤ M := hmb.1
      have hM2 : M ≤ 27 := by have := hmb.2; have := HN.out; omega
      clear hmb
      by_cases hlt : k < m
      · have HR := Lib.hid (HR0.out.below HB.out)
        obtain ⟨b, o, x, rfl, hb, hx, c0, c1, c2, c3⟩ := (Own.rd HO.out).card (k := k) (by rw [HMl.out]; exact hlt)
        have HX := Lib.hid (ok_at HRo.out hx)
        have HXx := Lib.hid hx
        have m0 : (0 : Int) ≤ (k : Int) := by omega
        have m1 : (k : Int) < (m : Int) := by omega
        have hst : bestOf l (L.take (k + 1)) = better l (B, M) x := by rw [take_snoc9 hx, best_snoc, ← HBM.out]
        have hth := thr_bd l x n
        have HP := Lib.hid (fun w' (hr : Rd w' p (flat l)) => l2_through l x p n c w' HN.out (by omega) hr HK.out HX.out HS.out)
        unfold better at hst
        rw [HN.out] at hst
        generalize thr l x n = t at *
        have HSt := Lib.hid hst
        have HNo := Lib.hid (fun w => l2_number x w HX.out)
        have t0 : 0 ≤ t := hth.1
        have t1 : t ≤ 27 := by omega
        have HS0 := Lib.hid hb
        clear hx hst hth HBM
        go_wp2_with fail
        refine ((HP.out _ (by repeat (first | with_reducible exact HR.out | with_reducible apply Rd.drewN | with_reducible apply Rd.drew | with_reducible apply Rd.alloc)))).mono ?_
        rintro e w4 ⟨rfl, b⟩
        have Sw4 := Lib.hid b.size
        have HB := Lib.hid (chain0 (w := w) (by repeat (first | with_reducible exact Below.refl _ _ | with_reducible exact HB.out | with_reducible apply Below.drew | with_reducible apply bdN | with_reducible refine Below.alloc ?_ (by first | exact Nat.le_refl _ | with_reducible exact HB.out.size | omega | (simp; done) | (simp; omega) | (have := HB.out.size; simp at *; omega)) _ | with_reducible refine Below.setCell ?_ (by first | exact Nat.le_refl _ | with_reducible exact HB.out.size | omega | (simp; done) | (simp; omega) | (have := HB.out.size; simp at *; omega)) _)) b)
        have HO := Lib.hid (Own.below (by repeat (first | with_reducible exact HO.out | with_reducible apply Own.drewN | with_reducible apply Own.drew | with_reducible apply Own.alloc)) b)
        have HR := Lib.hid (Rd.below (by repeat (first | with_reducible exact HR.out | with_reducible apply Rd.drewN | with_reducible apply Rd.drew | with_reducible apply Rd.alloc)) b)
        clear b
        by_cases hgt : M < t
        · obtain ⟨b6, o6, x6, hbo, hb6, hx6, d0, d1, d2, d3⟩ := (Own.rd HO.out).card (k := k) (by rw [HMl.out]; exact hlt)
          rw [HXx.out] at hx6
          injection hx6 with hx6
          subst hx6
          injection hbo with hbo
          injection hbo with e1 e2
          subst e1; subst e2
          have HSt2 : Hid ((num x, t) = bestOf l (L.take (k + 1))) := Lib.hid (by rw [HSt.out, if_pos hgt])
          go_wp2_with fail
          refine (HNo.out _).mono ?_
          rintro e w5 ⟨rfl, b⟩
          have HB := Lib.hid (chain0 (w := w) (by repeat (first | with_reducible exact Below.refl _ _ | with_reducible exact HB.out | with_reducible apply Below.drew | with_reducible apply bdN | with_reducible refine Below.alloc ?_ (by first | exact Nat.le_refl _ | with_reducible exact HB.out.size | omega | (simp; done) | (simp; omega) | (have := HB.out.size; simp at *; omega)) _ | with_reducible refine Below.setCell ?_ (by first | exact Nat.le_refl _ | with_reducible exact HB.out.size | omega | (simp; done) | (simp; omega) | (have := HB.out.size; simp at *; omega)) _)) b); have HO := Lib.hid (Own.below (by repeat (first | with_reducible exact HO.out | with_reducible apply Own.drewN | with_reducible apply Own.drew | with_reducible apply Own.alloc)) b); have HR := Lib.hid (Rd.below (by repeat (first | with_reducible exact HR.out | with_reducible apply Rd.drewN | with_reducible apply Rd.drew | with_reducible apply Rd.alloc)) b)
          clear b
          go_wp2_with fail
          go_roundw
          case rel => exact ⟨k + 1, num x, t, by omega, by go_num, rfl, rfl, HSt2, HO, HB⟩
          case measure => simp [intOf]; omega
        · have HSt2 : Hid ((B, M) = bestOf l (L.take (k + 1))) := Lib.hid (by rw [HSt.out, if_neg hgt])
          go_wp2_with fail
          go_roundw
          case rel => exact ⟨k + 1, B, M, by omega, by go_num, rfl, rfl, HSt2, HO, HB⟩
          case measure => simp [intOf]; omega
      · have hkm : k = m := by omega
        subst hkm
        rw [List.take_of_length_le (by rw [HMl.out]; exact Nat.le_refl _)] at HBM
        go_wp2_with fail
        go_ret3
        exact ⟨by rw [HT.out, ← HBM.out]; rfl, HB.out⟩
end Go.Proofs.Ytcedbhgjabheaaa.chance

