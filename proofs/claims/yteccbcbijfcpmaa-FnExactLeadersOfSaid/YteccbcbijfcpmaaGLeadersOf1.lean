/- Merged texts: Eq, Er, Es. -/
import Derived.Test.YteccbcbijfcpmaaGLeadersOf0
import Derived.Lib.MinMax
import Derived.BigQuiet
/- The most points, leaders: the program's and the model's. -/
namespace Go.Proofs.Yteccbcbijfcpmaa.game
open Go.RowKit
open cards deal
set_option linter.unusedVariables false

theorem best_step {l : List Int} {k : Nat} {x : Int} (hx : l[k]? = some x) : best l (-1) (k + 1) = max (best l (-1) k) x := by
  simp only [best]
  rw [hx]
  simp only
  rw [if_neg (by omega)]
  split <;> omega
theorem best_skip {l : List Int} {k : Nat} {but : Int} (h : (k : Int) = but) : best l but (k + 1) = best l but k := by
  simp only [best]
  split
  · rw [if_pos h]
  · rfl
theorem best_take {l : List Int} {k : Nat} {x but : Int} (hx : l[k]? = some x) (h : ¬ (k : Int) = but) : best l but (k + 1) = if x < best l but k then best l but k else x := by
  simp only [best]
  rw [hx]
  simp only
  rw [if_neg h]
set_option maxRecDepth 100000 in
set_option maxHeartbeats 2000000 in
theorem max_ints (l : List Int) (p : Option Addr) (n c : Nat) (w : World) (hn : l.length = n) (h1 : 1 ≤ n) (hl : n ≤ 1000000) (hb : ∀ (k : Nat) x, l[k]? = some x → -60 ≤ x ∧ x ≤ 60) (hr : Rd w p (ints l)) :
    Calls Try.prog 80 #[.slice p n c] w fun e w' => e = .returned (.int .i64 (bst l (-1))) ∧ Below w.heap.size w w' := by
  have HN := Lib.hid hn
  have HR := Lib.hid hr
  have HE := Lib.hid (show bst l (-1) = best l (-1) n by unfold bst; rw [hn])
  rw [HE.out]
  obtain ⟨b, o, x, rfl, hb0, hx, c0⟩ := hr.int (k := 0) (by rw [hn]; omega)
  have H1 : Hid (best l (-1) 1 = x) := Lib.hid (by have := hb 0 x hx; rw [best_step hx]; simp only [best]; omega)
  have h1i : ¬ (n : Int) < 1 := by omega
  have h0i : (0 : Int) < (n : Int) := by omega
  clear hn hr hx hb
  go_enter Try.func80, Try.ntmps80
  simp only [Nat.add_zero] at c0
  go_wp2_with fail
  go_loopw [3, 4] (fun m i wr => ∃ k : Nat, 1 ≤ k ∧ k ≤ n ∧ m = .int .i64 (best l (-1) k) ∧ i = .int .i64 k ∧ Hid (Below w.heap.size w wr)) (fun _ i _ => n - (intOf i).toNat)
  case atStart => exact ⟨1, Nat.le_refl _, h1, by rw [H1.out], rfl, Below.refl _ _⟩
  case round =>
    clear c0
    obtain ⟨k, hk1, hk, rfl, rfl, HB⟩ := hrel
    by_cases hlt : k < n
    · obtain ⟨b', o', y, e, hb1, hy, c1⟩ := (HR.out.below HB.out).int (k := k) (by rw [HN.out]; exact hlt)
      injection e with e
      injection e with e1 e2
      subst e1; subst e2
      have HS := Lib.hid (best_step hy)
      have m0 : (0 : Int) ≤ (k : Int) := by omega
      have m1 : (k : Int) < (n : Int) := by omega
      obtain ⟨q, hq⟩ : ∃ q, best l (-1) k = q := ⟨_, rfl⟩
      rw [hq] at HS ⊢
      clear hy hq
      go_wp2_with fail
      go_roundw
      case rel => exact ⟨k + 1, by omega, by omega, by rw [HS.out], by go_num, HB⟩
      case measure => simp [intOf]; omega
    · obtain rfl : k = n := by omega
      go_wp2_with fail
      go_ret
      exact ⟨rfl, HB.out⟩

set_option maxRecDepth 100000 in
set_option maxHeartbeats 2000000 in
theorem l8_best (l : List Int) (but : Int) (p : Option Addr) (n c : Nat) (w : World) (hn : l.length = n) (hl : n ≤ 1000000) (hr : Rd w p (ints l)) :
    Calls Try.prog 79 #[.slice p n c, .int .i64 but] w fun e w' => e = .returned (.int .i64 (bst l but)) ∧ Below w.heap.size w w' := by
  have HN := Lib.hid hn
  have HR := Lib.hid hr
  have HE := Lib.hid (show bst l but = best l but n by unfold bst; rw [hn])
  rw [HE.out]
  clear hn hr
  go_enter Try.func79, Try.ntmps79
  go_wp2_with fail
  go_loopw [5, 6] (fun m i wr => ∃ k : Nat, k ≤ n ∧ m = .int .i64 (best l but k) ∧ i = .int .i64 k ∧ Hid (Below w.heap.size w wr)) (fun _ i _ => n - (intOf i).toNat)
  case atStart => exact ⟨0, Nat.zero_le _, rfl, rfl, Below.refl _ _⟩
  case round =>
    obtain ⟨k, hk, rfl, rfl, HB⟩ := hrel
    by_cases hlt : k < n
    · obtain ⟨b, o, y, rfl, hb1, hy, c1⟩ := (HR.out.below HB.out).int (k := k) (by rw [HN.out]; exact hlt)
      have HY := Lib.hid hy
      have m0 : (0 : Int) ≤ (k : Int) := by omega
      have m1 : (k : Int) < (n : Int) := by omega
      obtain ⟨q, hq⟩ : ∃ q, best l but k = q := ⟨_, rfl⟩
      have HQ := Lib.hid hq
      clear hy
      by_cases hkb : (k : Int) = but
      · have HS := Lib.hid (best_skip (l := l) hkb)
        have hne : ((k : Int) != but) = false := by simp [hkb]
        rw [hq] at HS ⊢
        clear hkb hq
        go_wp2_with fail
        go_roundw
        case rel => exact ⟨k + 1, by omega, by rw [HS.out], by go_num, HB⟩
        case measure => simp [intOf]; omega
      · have HS := Lib.hid (best_take HY.out hkb)
        have hne : ((k : Int) != but) = true := by simp [hkb]
        rw [hq] at HS ⊢
        clear hkb hq
        have HM := Lib.hid (fun w => l1_most q y w)
        obtain ⟨v, hv⟩ : ∃ v, (if y < q then q else y) = v := ⟨_, rfl⟩
        rw [hv] at HM HS
        clear hv
        go_wp2_with fail
        refine ((HM.out _)).mono ?_
        rintro e w1 ⟨rfl, b⟩
        have Sw1 := Lib.hid b.size
        have HB := Lib.hid (chain0 (w := w) (by repeat (first | with_reducible exact Below.refl _ _ | with_reducible exact HB.out | with_reducible apply Below.drew | with_reducible apply bdN | with_reducible refine Below.alloc ?_ (by first | exact Nat.le_refl _ | with_reducible exact HB.out.size | omega | (simp; done) | (simp; omega) | (have := HB.out.size; simp at *; omega)) _ | with_reducible refine Below.setCell ?_ (by first | exact Nat.le_refl _ | with_reducible exact HB.out.size | omega | (simp; done) | (simp; omega) | (have := HB.out.size; simp at *; omega)) _)) b)
        clear b
        go_wp2_with fail
        go_roundw
        case rel => exact ⟨k + 1, by omega, by rw [HS.out], by go_num, HB⟩
        case measure => simp [intOf]; omega
    · obtain rfl : k = n := by omega
      go_wp2_with fail
      go_ret
      exact ⟨rfl, HB.out⟩

/-! Points of all players. -/
noncomputable def ptR (g : Gm) : List Int × Bool := if g.ok = true then (pts g, true) else ([], false)
theorem ptR_len (g : Gm) : (ptR g).1.length ≤ 1000 := by
  unfold ptR; split
  · rename_i h
    have := Gm.ok_iff.1 h
    show (pts g).length ≤ _
    rw [pts_len this.eq]; have := this.p4; omega
  · simp

set_option maxRecDepth 100000 in
set_option maxHeartbeats 1000000 in
theorem impl_pt (g : Gm) (p ps pw : Option Addr) (n c ns cs nw cw : Nat) (w : World) (hf : FitG n c ns cs nw cw p ps pw g) (hr : RdG w p ps pw g.l g.sc g.wr) :
    Calls Try.prog 37 #[gval g.s g.nx (.slice p n c) (.slice ps ns cs) (.slice pw nw cw)] w fun e w' => ∃ v, e = .returned (.tuple #[v, .bool (ptR g).2]) ∧ OwnI w' w.heap.size v (ptR g).1 ∧ Below w.heap.size w w' := by
  have HR := Lib.hid hr
  have HF := Lib.hid hf
  have HC := Lib.hid (fun w h => is_game g p ps pw n c ns cs nw cw w hf h)
  clear hf hr
  cases hok : g.ok
  · have HT := Lib.hid (show ptR g = ([], false) by unfold ptR; rw [if_neg (by simp [hok])])
    rw [hok] at HC
    rw [HT.out]
    clear hok HT
    obtain ⟨s, nx, l, sc, wt⟩ := g
    simp only at HR HC ⊢
    go_enter Try.func37, Try.ntmps37
    go_wp2_with fail
    refine ((HC.out _ (RdG.alloc HR.out _))).mono ?_
    rintro e w1 ⟨rfl, b⟩
    have Sw1 := Lib.hid b.size
    have HB := Lib.hid (chain0 (w := w) (by repeat (first | with_reducible exact Below.refl _ _ | with_reducible exact HB.out | with_reducible apply Below.drew | with_reducible apply bdN | with_reducible refine Below.alloc ?_ (by first | exact Nat.le_refl _ | with_reducible exact HB.out.size | omega | (simp; done) | (simp; omega) | (have := HB.out.size; simp at *; omega)) _ | with_reducible refine Below.setCell ?_ (by first | exact Nat.le_refl _ | with_reducible exact HB.out.size | omega | (simp; done) | (simp; omega) | (have := HB.out.size; simp at *; omega)) _)) b)
    have HR := Lib.hid (RdG.below (by repeat (first | with_reducible exact HR.out | with_reducible apply RdG.drewN | with_reducible apply RdG.drew | with_reducible apply RdG.alloc)) b)
    have K1 : Hid (GBox _ (w.heap.size) (⟨27, s, nx, .slice p n c, .slice ps ns cs, .slice pw nw cw⟩)) := Lib.hid (GBox.below (by repeat (first | with_reducible exact K1.out | with_reducible apply GBox.drewN | with_reducible apply GBox.drew | (with_reducible refine GBox.newAt ?_ ?_ <;> first | (simp; done) | rfl) | with_reducible apply GBox.alloc)) b)
    try clear k1a k1b k1c k1d k1e k1z
    have k1z := K1.out.lt
    obtain ⟨k1a, k1b, k1c, k1d, k1e⟩ := K1.out.cell
    clear b
    have hz := HB.out.size
    have HE := Lib.hid (OwnI.empty w1 w.heap.size hz)
    go_wp2_with fail
    go_ret2
    exact ⟨_, rfl, HE.out, by repeat (first | with_reducible exact Below.refl _ _ | with_reducible exact HB.out | with_reducible apply Below.drew | with_reducible apply bdN | with_reducible refine Below.alloc ?_ (by first | exact Nat.le_refl _ | with_reducible exact HB.out.size | omega | (simp; done) | (simp; omega) | (have := HB.out.size; simp at *; omega)) _ | with_reducible refine Below.setCell ?_ (by first | exact Nat.le_refl _ | with_reducible exact HB.out.size | omega | (simp; done) | (simp; omega) | (have := HB.out.size; simp at *; omega)) _)⟩
  · have HO := Lib.hid (Gm.ok_iff.1 hok)
    have HT := Lib.hid (show ptR g = (pts g, true) by unfold ptR; rw [if_pos hok])
    obtain rfl : nw = ns := by rw [← HF.out.hw, ← HF.out.hs]; exact HO.out.eq
    have HP := Lib.hid (fun w h => player_points g p ps pw n c nw cs cw w HF.out.hs HF.out.hw (by have := HO.out.p4; have := HF.out.hs; omega) HO.out.ts HO.out.tw h)
    rw [hok] at HC
    rw [HT.out]
    obtain ⟨P, hP⟩ : ∃ P, pts g = P := ⟨_, rfl⟩
    rw [hP] at HP ⊢
    clear hok HT hP
    obtain ⟨s, nx, l, sc, wt⟩ := g
    simp only at HR HC HP ⊢
    go_enter Try.func37, Try.ntmps37
    go_wp2_with fail
    refine ((HC.out _ (RdG.alloc HR.out _))).mono ?_
    rintro e w1 ⟨rfl, b⟩
    have Sw1 := Lib.hid b.size
    have HB := Lib.hid (chain0 (w := w) (by repeat (first | with_reducible exact Below.refl _ _ | with_reducible exact HB.out | with_reducible apply Below.drew | with_reducible apply bdN | with_reducible refine Below.alloc ?_ (by first | exact Nat.le_refl _ | with_reducible exact HB.out.size | omega | (simp; done) | (simp; omega) | (have := HB.out.size; simp at *; omega)) _ | with_reducible refine Below.setCell ?_ (by first | exact Nat.le_refl _ | with_reducible exact HB.out.size | omega | (simp; done) | (simp; omega) | (have := HB.out.size; simp at *; omega)) _)) b)
    have HR := Lib.hid (RdG.below (by repeat (first | with_reducible exact HR.out | with_reducible apply RdG.drewN | with_reducible apply RdG.drew | with_reducible apply RdG.alloc)) b)
    have K1 : Hid (GBox _ (w.heap.size) (⟨27, s, nx, .slice p n c, .slice ps nw cs, .slice pw nw cw⟩)) := Lib.hid (GBox.below (by repeat (first | with_reducible exact K1.out | with_reducible apply GBox.drewN | with_reducible apply GBox.drew | (with_reducible refine GBox.newAt ?_ ?_ <;> first | (simp; done) | rfl) | with_reducible apply GBox.alloc)) b)
    try clear k1a k1b k1c k1d k1e k1z
    have k1z := K1.out.lt
    obtain ⟨k1a, k1b, k1c, k1d, k1e⟩ := K1.out.cell
    clear b
    go_wp2_with fail
    refine (HP.out _ HR.out).mono ?_
    rintro e w2 ⟨v, rfl, hv, b⟩
    have hz := HB.out.size
    have HV := Lib.hid (OwnI.base hv hz)
    obtain ⟨pv, cv, rfl, _⟩ := hv.form
    clear hv
    have Sw2 := Lib.hid b.size
    have HB := Lib.hid (chain0 (w := w) (by repeat (first | with_reducible exact Below.refl _ _ | with_reducible exact HB.out | with_reducible apply Below.drew | with_reducible apply bdN | with_reducible refine Below.alloc ?_ (by first | exact Nat.le_refl _ | with_reducible exact HB.out.size | omega | (simp; done) | (simp; omega) | (have := HB.out.size; simp at *; omega)) _ | with_reducible refine Below.setCell ?_ (by first | exact Nat.le_refl _ | with_reducible exact HB.out.size | omega | (simp; done) | (simp; omega) | (have := HB.out.size; simp at *; omega)) _)) b)
    have HR := Lib.hid (RdG.below (by repeat (first | with_reducible exact HR.out | with_reducible apply RdG.drewN | with_reducible apply RdG.drew | with_reducible apply RdG.alloc)) b)
    have K1 : Hid (GBox _ (w.heap.size) (⟨27, s, nx, .slice p n c, .slice ps nw cs, .slice pw nw cw⟩)) := Lib.hid (GBox.below (by repeat (first | with_reducible exact K1.out | with_reducible apply GBox.drewN | with_reducible apply GBox.drew | (with_reducible refine GBox.newAt ?_ ?_ <;> first | (simp; done) | rfl) | with_reducible apply GBox.alloc)) b)
    try clear k1a k1b k1c k1d k1e k1z
    have k1z := K1.out.lt
    obtain ⟨k1a, k1b, k1c, k1d, k1e⟩ := K1.out.cell
    clear b
    go_wp2_with fail
    go_ret2
    exact ⟨_, rfl, HV.out, by repeat (first | with_reducible exact Below.refl _ _ | with_reducible exact HB.out | with_reducible apply Below.drew | with_reducible apply bdN | with_reducible refine Below.alloc ?_ (by first | exact Nat.le_refl _ | with_reducible exact HB.out.size | omega | (simp; done) | (simp; omega) | (have := HB.out.size; simp at *; omega)) _ | with_reducible refine Below.setCell ?_ (by first | exact Nat.le_refl _ | with_reducible exact HB.out.size | omega | (simp; done) | (simp; omega) | (have := HB.out.size; simp at *; omega)) _)⟩
set_option maxRecDepth 100000 in
set_option maxHeartbeats 1000000 in
theorem spec_pt (g : Gm) (p ps pw : Option Addr) (n c ns cs nw cw : Nat) (w : World) (hf : FitG n c ns cs nw cw p ps pw g) (hr : RdG w p ps pw g.l g.sc g.wr) :
    Calls Try.prog 36 #[gval g.s g.nx (.slice p n c) (.slice ps ns cs) (.slice pw nw cw)] w fun e w' => ∃ v, e = .returned (.tuple #[v, .bool (ptR g).2]) ∧ OwnI w' w.heap.size v (ptR g).1 ∧ Below w.heap.size w w' := by
  have HR := Lib.hid hr
  have HF := Lib.hid hf
  have HC := Lib.hid (fun w h => l8_game g p ps pw n c ns cs nw cw w hf h)
  clear hf hr
  cases hok : g.ok
  · have HT := Lib.hid (show ptR g = ([], false) by unfold ptR; rw [if_neg (by simp [hok])])
    rw [hok] at HC
    rw [HT.out]
    clear hok HT
    obtain ⟨s, nx, l, sc, wt⟩ := g
    simp only at HR HC ⊢
    go_enter Try.func36, Try.ntmps36
    go_wp2_with fail
    refine ((HC.out _ (RdG.alloc HR.out _))).mono ?_
    rintro e w1 ⟨rfl, b⟩
    have Sw1 := Lib.hid b.size
    have HB := Lib.hid (chain0 (w := w) (by repeat (first | with_reducible exact Below.refl _ _ | with_reducible exact HB.out | with_reducible apply Below.drew | with_reducible apply bdN | with_reducible refine Below.alloc ?_ (by first | exact Nat.le_refl _ | with_reducible exact HB.out.size | omega | (simp; done) | (simp; omega) | (have := HB.out.size; simp at *; omega)) _ | with_reducible refine Below.setCell ?_ (by first | exact Nat.le_refl _ | with_reducible exact HB.out.size | omega | (simp; done) | (simp; omega) | (have := HB.out.size; simp at *; omega)) _)) b)
    have HR := Lib.hid (RdG.below (by repeat (first | with_reducible exact HR.out | with_reducible apply RdG.drewN | with_reducible apply RdG.drew | with_reducible apply RdG.alloc)) b)
    have K1 : Hid (GBox _ (w.heap.size) (⟨27, s, nx, .slice p n c, .slice ps ns cs, .slice pw nw cw⟩)) := Lib.hid (GBox.below (by repeat (first | with_reducible exact K1.out | with_reducible apply GBox.drewN | with_reducible apply GBox.drew | (with_reducible refine GBox.newAt ?_ ?_ <;> first | (simp; done) | rfl) | with_reducible apply GBox.alloc)) b)
    try clear k1a k1b k1c k1d k1e k1z
    have k1z := K1.out.lt
    obtain ⟨k1a, k1b, k1c, k1d, k1e⟩ := K1.out.cell
    clear b
    have hz := HB.out.size
    have HE := Lib.hid (OwnI.empty w1 w.heap.size hz)
    go_wp2_with fail
    go_ret2
    exact ⟨_, rfl, HE.out, by repeat (first | with_reducible exact Below.refl _ _ | with_reducible exact HB.out | with_reducible apply Below.drew | with_reducible apply bdN | with_reducible refine Below.alloc ?_ (by first | exact Nat.le_refl _ | with_reducible exact HB.out.size | omega | (simp; done) | (simp; omega) | (have := HB.out.size; simp at *; omega)) _ | with_reducible refine Below.setCell ?_ (by first | exact Nat.le_refl _ | with_reducible exact HB.out.size | omega | (simp; done) | (simp; omega) | (have := HB.out.size; simp at *; omega)) _)⟩
  · have HO := Lib.hid (Gm.ok_iff.1 hok)
    have HT := Lib.hid (show ptR g = (pts g, true) by unfold ptR; rw [if_pos hok])
    obtain rfl : nw = ns := by rw [← HF.out.hw, ← HF.out.hs]; exact HO.out.eq
    have HP := Lib.hid (fun w h => l8_points g p ps pw n c nw cs cw w HF.out.hs HF.out.hw (by have := HO.out.p4; have := HF.out.hs; omega) HO.out.ts HO.out.tw h)
    rw [hok] at HC
    rw [HT.out]
    obtain ⟨P, hP⟩ : ∃ P, pts g = P := ⟨_, rfl⟩
    rw [hP] at HP ⊢
    clear hok HT hP
    obtain ⟨s, nx, l, sc, wt⟩ := g
    simp only at HR HC HP ⊢
    go_enter Try.func36, Try.ntmps36
    go_wp2_with fail
    refine ((HC.out _ (RdG.alloc HR.out _))).mono ?_
    rintro e w1 ⟨rfl, b⟩
    have Sw1 := Lib.hid b.size
    have HB := Lib.hid (chain0 (w := w) (by repeat (first | with_reducible exact Below.refl _ _ | with_reducible exact HB.out | with_reducible apply Below.drew | with_reducible apply bdN | with_reducible refine Below.alloc ?_ (by first | exact Nat.le_refl _ | with_reducible exact HB.out.size | omega | (simp; done) | (simp; omega) | (have := HB.out.size; simp at *; omega)) _ | with_reducible refine Below.setCell ?_ (by first | exact Nat.le_refl _ | with_reducible exact HB.out.size | omega | (simp; done) | (simp; omega) | (have := HB.out.size; simp at *; omega)) _)) b)
    have HR := Lib.hid (RdG.below (by repeat (first | with_reducible exact HR.out | with_reducible apply RdG.drewN | with_reducible apply RdG.drew | with_reducible apply RdG.alloc)) b)
    have K1 : Hid (GBox _ (w.heap.size) (⟨27, s, nx, .slice p n c, .slice ps nw cs, .slice pw nw cw⟩)) := Lib.hid (GBox.below (by repeat (first | with_reducible exact K1.out | with_reducible apply GBox.drewN | with_reducible apply GBox.drew | (with_reducible refine GBox.newAt ?_ ?_ <;> first | (simp; done) | rfl) | with_reducible apply GBox.alloc)) b)
    try clear k1a k1b k1c k1d k1e k1z
    have k1z := K1.out.lt
    obtain ⟨k1a, k1b, k1c, k1d, k1e⟩ := K1.out.cell
    clear b
    go_wp2_with fail
    refine (HP.out _ HR.out).mono ?_
    rintro e w2 ⟨v, rfl, hv, b⟩
    have hz := HB.out.size
    have HV := Lib.hid (OwnI.base hv hz)
    obtain ⟨pv, cv, rfl, _⟩ := hv.form
    clear hv
    have Sw2 := Lib.hid b.size
    have HB := Lib.hid (chain0 (w := w) (by repeat (first | with_reducible exact Below.refl _ _ | with_reducible exact HB.out | with_reducible apply Below.drew | with_reducible apply bdN | with_reducible refine Below.alloc ?_ (by first | exact Nat.le_refl _ | with_reducible exact HB.out.size | omega | (simp; done) | (simp; omega) | (have := HB.out.size; simp at *; omega)) _ | with_reducible refine Below.setCell ?_ (by first | exact Nat.le_refl _ | with_reducible exact HB.out.size | omega | (simp; done) | (simp; omega) | (have := HB.out.size; simp at *; omega)) _)) b)
    have HR := Lib.hid (RdG.below (by repeat (first | with_reducible exact HR.out | with_reducible apply RdG.drewN | with_reducible apply RdG.drew | with_reducible apply RdG.alloc)) b)
    have K1 : Hid (GBox _ (w.heap.size) (⟨27, s, nx, .slice p n c, .slice ps nw cs, .slice pw nw cw⟩)) := Lib.hid (GBox.below (by repeat (first | with_reducible exact K1.out | with_reducible apply GBox.drewN | with_reducible apply GBox.drew | (with_reducible refine GBox.newAt ?_ ?_ <;> first | (simp; done) | rfl) | with_reducible apply GBox.alloc)) b)
    try clear k1a k1b k1c k1d k1e k1z
    have k1z := K1.out.lt
    obtain ⟨k1a, k1b, k1c, k1d, k1e⟩ := K1.out.cell
    clear b
    go_wp2_with fail
    go_ret2
    exact ⟨_, rfl, HV.out, by repeat (first | with_reducible exact Below.refl _ _ | with_reducible exact HB.out | with_reducible apply Below.drew | with_reducible apply bdN | with_reducible refine Below.alloc ?_ (by first | exact Nat.le_refl _ | with_reducible exact HB.out.size | omega | (simp; done) | (simp; omega) | (have := HB.out.size; simp at *; omega)) _ | with_reducible refine Below.setCell ?_ (by first | exact Nat.le_refl _ | with_reducible exact HB.out.size | omega | (simp; done) | (simp; omega) | (have := HB.out.size; simp at *; omega)) _)⟩
end Go.Proofs.Yteccbcbijfcpmaa.game

/- Leaders: the program's and the model's. -/
namespace Go.Proofs.Yteccbcbijfcpmaa.game
open Go.RowKit
open cards deal
set_option linter.unusedVariables false

def ldr (l : List Int) : List Int := lead l (bst l (-1)) l.length
noncomputable def ldR (g : Gm) : List Int × Bool := if g.ok = true then (ldr (pts g), true) else ([], false)
theorem ldR_len (g : Gm) : (ldR g).1.length ≤ 1000 := by
  unfold ldR; split
  · rename_i h
    have h1 := Gm.ok_iff.1 h
    have h2 := lead_len (pts g) (bst (pts g) (-1)) (pts g).length
    rw [pts_len h1.eq] at h2
    show (lead (pts g) (bst (pts g) (-1)) (pts g).length).length ≤ _
    rw [pts_len h1.eq]
    have := h1.p4; omega
  · simp
theorem lead_yes {l : List Int} {m : Int} {k : Nat} {x : Int} (h : l[k]? = some x) (e : x = m) : lead l m (k + 1) = lead l m k ++ [(k : Int)] := by simp only [lead]; rw [if_pos (by rw [h, e])]
theorem lead_no {l : List Int} {m : Int} {k : Nat} {x : Int} (h : l[k]? = some x) (e : ¬ x = m) : lead l m (k + 1) = lead l m k := by simp only [lead]; rw [if_neg (by rw [h]; intro e2; injection e2 with e2; exact e e2), List.append_nil]

set_option maxRecDepth 100000 in
set_option maxHeartbeats 2000000 in
theorem impl_ld (g : Gm) (p ps pw : Option Addr) (n c ns cs nw cw : Nat) (w : World) (hf : FitG n c ns cs nw cw p ps pw g) (hr : RdG w p ps pw g.l g.sc g.wr) :
    Calls Try.prog 42 #[gval g.s g.nx (.slice p n c) (.slice ps ns cs) (.slice pw nw cw)] w fun e w' => ∃ v, e = .returned (.tuple #[v, .bool (ldR g).2]) ∧ OwnI w' w.heap.size v (ldR g).1 ∧ Below w.heap.size w w' := by
  have HR := Lib.hid hr
  have HF := Lib.hid hf
  have HC := Lib.hid (fun w h => is_game g p ps pw n c ns cs nw cw w hf h)
  clear hf hr
  cases hok : g.ok
  · have HT := Lib.hid (show ldR g = ([], false) by unfold ldR; rw [if_neg (by simp [hok])])
    rw [hok] at HC
    rw [HT.out]
    clear hok HT
    obtain ⟨s, nx, l, sc, wt⟩ := g
    simp only at HR HC ⊢
    go_enter Try.func42, Try.ntmps42
    go_wp2_with fail
    refine ((HC.out _ (RdG.alloc HR.out _))).mono ?_
    rintro e w1 ⟨rfl, b⟩
    have Sw1 := Lib.hid b.size
    have HB := Lib.hid (chain0 (w := w) (by repeat (first | with_reducible exact Below.refl _ _ | with_reducible exact HB.out | with_reducible apply Below.drew | with_reducible apply bdN | with_reducible refine Below.alloc ?_ (by first | exact Nat.le_refl _ | with_reducible exact HB.out.size | omega | (simp; done) | (simp; omega) | (have := HB.out.size; simp at *; omega)) _ | with_reducible refine Below.setCell ?_ (by first | exact Nat.le_refl _ | with_reducible exact HB.out.size | omega | (simp; done) | (simp; omega) | (have := HB.out.size; simp at *; omega)) _)) b)
    have HR := Lib.hid (RdG.below (by repeat (first | with_reducible exact HR.out | with_reducible apply RdG.drewN | with_reducible apply RdG.drew | with_reducible apply RdG.alloc)) b)
    have K1 : Hid (GBox _ (w.heap.size) (⟨27, s, nx, .slice p n c, .slice ps ns cs, .slice pw nw cw⟩)) := Lib.hid (GBox.below (by repeat (first | with_reducible exact K1.out | with_reducible apply GBox.drewN | with_reducible apply GBox.drew | (with_reducible refine GBox.newAt ?_ ?_ <;> first | (simp; done) | rfl) | with_reducible apply GBox.alloc)) b)
    try clear k1a k1b k1c k1d k1e k1z
    have k1z := K1.out.lt
    obtain ⟨k1a, k1b, k1c, k1d, k1e⟩ := K1.out.cell
    clear b
    have hz := HB.out.size
    have HE := Lib.hid (OwnI.empty w1 w.heap.size hz)
    go_wp2_with fail
    go_ret2
    exact ⟨_, rfl, HE.out, by repeat (first | with_reducible exact Below.refl _ _ | with_reducible exact HB.out | with_reducible apply Below.drew | with_reducible apply bdN | with_reducible refine Below.alloc ?_ (by first | exact Nat.le_refl _ | with_reducible exact HB.out.size | omega | (simp; done) | (simp; omega) | (have := HB.out.size; simp at *; omega)) _ | with_reducible refine Below.setCell ?_ (by first | exact Nat.le_refl _ | with_reducible exact HB.out.size | omega | (simp; done) | (simp; omega) | (have := HB.out.size; simp at *; omega)) _)⟩
  · have HO := Lib.hid (Gm.ok_iff.1 hok)
    have HT := Lib.hid (show ldR g = (ldr (pts g), true) by unfold ldR; rw [if_pos hok])
    obtain rfl : nw = ns := by rw [← HF.out.hw, ← HF.out.hs]; exact HO.out.eq
    have hn4 : nw ≤ 4 ∧ 1 ≤ nw := by have := HO.out.p4; have := HO.out.p1; have := HF.out.hs; omega
    obtain ⟨n4, n1⟩ := hn4
    have HP := Lib.hid (fun w h => player_points g p ps pw n c nw cs cw w HF.out.hs HF.out.hw (by omega) HO.out.ts HO.out.tw h)
    have HPl := Lib.hid ((pts_len HO.out.eq).trans HF.out.hs)
    have HPb := Lib.hid (fun k x h => pts_bd HO.out (k := k) (x := x) h)
    rw [hok] at HC
    rw [HT.out]
    obtain ⟨P, hP⟩ : ∃ P, pts g = P := ⟨_, rfl⟩
    rw [hP] at HP HPl HPb ⊢
    have HMx := Lib.hid (fun p c w h => max_ints P p nw c w HPl.out n1 (by omega) HPb.out h)
    have HLe := Lib.hid (show ldr P = lead P (bst P (-1)) nw by unfold ldr; rw [HPl.out])
    rw [HLe.out]
    obtain ⟨mx, hmx⟩ : ∃ mx, bst P (-1) = mx := ⟨_, rfl⟩
    rw [hmx] at HMx ⊢
    have HLl := Lib.hid (fun k => lead_len P mx k)
    clear hok HT hP HLe hmx
    obtain ⟨s, nx, l, sc, wt⟩ := g
    simp only at HR HC HP ⊢
    go_enter Try.func42, Try.ntmps42
    go_wp2_with fail
    refine ((HC.out _ (RdG.alloc HR.out _))).mono ?_
    rintro e w1 ⟨rfl, b⟩
    have Sw1 := Lib.hid b.size
    have HB := Lib.hid (chain0 (w := w) (by repeat (first | with_reducible exact Below.refl _ _ | with_reducible exact HB.out | with_reducible apply Below.drew | with_reducible apply bdN | with_reducible refine Below.alloc ?_ (by first | exact Nat.le_refl _ | with_reducible exact HB.out.size | omega | (simp; done) | (simp; omega) | (have := HB.out.size; simp at *; omega)) _ | with_reducible refine Below.setCell ?_ (by first | exact Nat.le_refl _ | with_reducible exact HB.out.size | omega | (simp; done) | (simp; omega) | (have := HB.out.size; simp at *; omega)) _)) b)
    have HR := Lib.hid (RdG.below (by repeat (first | with_reducible exact HR.out | with_reducible apply RdG.drewN | with_reducible apply RdG.drew | with_reducible apply RdG.alloc)) b)
    have K1 : Hid (GBox _ (w.heap.size) (⟨27, s, nx, .slice p n c, .slice ps nw cs, .slice pw nw cw⟩)) := Lib.hid (GBox.below (by repeat (first | with_reducible exact K1.out | with_reducible apply GBox.drewN | with_reducible apply GBox.drew | (with_reducible refine GBox.newAt ?_ ?_ <;> first | (simp; done) | rfl) | with_reducible apply GBox.alloc)) b)
    try clear k1a k1b k1c k1d k1e k1z
    have k1z := K1.out.lt
    obtain ⟨k1a, k1b, k1c, k1d, k1e⟩ := K1.out.cell
    clear b
    go_wp2_with fail
    refine (HP.out _ HR.out).mono ?_
    rintro e w2 ⟨v, rfl, hv, b⟩
    have hz := HB.out.size
    have HV := Lib.hid (OwnI.base hv hz)
    obtain ⟨pv, cv, rfl, _⟩ := hv.form
    rw [HPl.out] at HV hv ⊢
    clear hv
    have Sw2 := Lib.hid b.size
    have HB := Lib.hid (chain0 (w := w) (by repeat (first | with_reducible exact Below.refl _ _ | with_reducible exact HB.out | with_reducible apply Below.drew | with_reducible apply bdN | with_reducible refine Below.alloc ?_ (by first | exact Nat.le_refl _ | with_reducible exact HB.out.size | omega | (simp; done) | (simp; omega) | (have := HB.out.size; simp at *; omega)) _ | with_reducible refine Below.setCell ?_ (by first | exact Nat.le_refl _ | with_reducible exact HB.out.size | omega | (simp; done) | (simp; omega) | (have := HB.out.size; simp at *; omega)) _)) b)
    have HR := Lib.hid (RdG.below (by repeat (first | with_reducible exact HR.out | with_reducible apply RdG.drewN | with_reducible apply RdG.drew | with_reducible apply RdG.alloc)) b)
    have K1 : Hid (GBox _ (w.heap.size) (⟨27, s, nx, .slice p n c, .slice ps nw cs, .slice pw nw cw⟩)) := Lib.hid (GBox.below (by repeat (first | with_reducible exact K1.out | with_reducible apply GBox.drewN | with_reducible apply GBox.drew | (with_reducible refine GBox.newAt ?_ ?_ <;> first | (simp; done) | rfl) | with_reducible apply GBox.alloc)) b)
    try clear k1a k1b k1c k1d k1e k1z
    have k1z := K1.out.lt
    obtain ⟨k1a, k1b, k1c, k1d, k1e⟩ := K1.out.cell
    clear b
    clear hz k1a k1b k1c k1d k1e k1z
    go_wp2_with fail
    refine ((HMx.out pv cv _ HV.out.rd)).mono ?_
    rintro e w3 ⟨rfl, b⟩
    have Sw3 := Lib.hid b.size
    have HB := Lib.hid (chain0 (w := w) (by repeat (first | with_reducible exact Below.refl _ _ | with_reducible exact HB.out | with_reducible apply Below.drew | with_reducible apply bdN | with_reducible refine Below.alloc ?_ (by first | exact Nat.le_refl _ | with_reducible exact HB.out.size | omega | (simp; done) | (simp; omega) | (have := HB.out.size; simp at *; omega)) _ | with_reducible refine Below.setCell ?_ (by first | exact Nat.le_refl _ | with_reducible exact HB.out.size | omega | (simp; done) | (simp; omega) | (have := HB.out.size; simp at *; omega)) _)) b)
    have HV := Lib.hid (OwnI.below (by repeat (first | with_reducible exact HV.out | with_reducible apply OwnI.drewN | with_reducible apply OwnI.drew | with_reducible apply OwnI.alloc)) b)
    clear b
    have hz3 := HB.out.size
    have HL : Hid (OwnI (w3.alloc (.cells #[] 3)) w.heap.size (.slice (some ⟨w3.heap.size, 0, none⟩) 0 0) (lead P mx 0)) := Lib.hid (OwnI.empty w3 w.heap.size hz3)
    have HV0 := Lib.hid (HV.out.alloc (.cells #[] 3))
    have HB0 := Lib.hid (HB.out.alloc hz3 (.cells #[] 3))
    have HA0 : Hid (Ap (.slice (some ⟨w3.heap.size, 0, none⟩) 0 0) (.slice pv nw cv)) := Lib.hid (fun g e1 e2 => by have e1 : some w3.heap.size = some g := e1; injection e1 with e1; have := (HV.out.span g e2).2; omega)
    go_wp2_with fail
    go_loopw [6, 7, 8, 20] (fun u _ _ i wr => ∃ (k : Nat) (pu : Option Addr) (cu m : Nat), k ≤ nw ∧ m ≤ k ∧ u = .slice pu m cu ∧ i = .int .i64 k ∧ m = (lead P mx k).length ∧ Hid (OwnI wr w.heap.size (.slice pu m cu) (lead P mx k)) ∧ Hid (Ap (.slice pu m cu) (.slice pv nw cv)) ∧ Hid (OwnI wr w.heap.size (.slice pv nw cv) P) ∧ Hid (Below w.heap.size w wr)) (fun _ _ _ i _ => nw - (intOf i).toNat)
    case atStart => exact ⟨0, _, _, 0, Nat.zero_le _, Nat.le_refl _, rfl, rfl, rfl, HL, HA0, HV0, HB0⟩
    case round =>
      clear HL HV0 HB0 HA0 HB HV hz3
      obtain ⟨k, pu, cu, m, hk, hm, rfl, rfl, hml, HL, HA, HV, HB⟩ := hrel
      have HMl := Lib.hid hml
      clear hml
      have m0 : (0 : Int) ≤ (k : Int) := by omega
      by_cases hlt : k < nw
      · have m1 : (k : Int) < (nw : Int) := by omega
        obtain ⟨b1, o1, x, rfl, hb1, hx, c0⟩ := HV.out.rd.int (k := k) (by rw [HPl.out]; exact hlt)
        by_cases he : x = mx
        · have HS := Lib.hid (lead_yes hx he)
          subst he
          have hL2 := (HLl.out (k + 1))
          rw [HS.out] at hL2
          rw [List.length_append, ← HMl.out] at hL2
          clear hx
          go_wp2_with (at_builtin; refine append_int_at rfl (.tmp 28) (.tmp 30) rfl w.heap.size _ (lead P x k) (k : Int) _ _ rfl rfl rfl HL.out (by have := HMl.out; omega) HB.out.size ?_; intro v1 w5 hO1 hB1 hG1 hA1; have HL2 := Lib.hid hO1; have HB2 := Lib.hid (HB.out.trans hB1); have HV2 := Lib.hid (OwnI.past HV.out hG1 HA.out); have HA2 := Lib.hid (Ap.next HA.out (fun q hq => by have := (HV.out.span q hq).2; omega) hA1); clear hO1 hB1 hG1 hA1)
          obtain ⟨p2, c2, rfl, _⟩ := HL2.out.form
          obtain ⟨m2, hm2⟩ : ∃ m2, (lead P x k ++ [(k : Int)]).length = m2 := ⟨_, rfl⟩
          rw [hm2] at HL2 HA2 ⊢
          rw [← HS.out] at HL2
          have hm3 : m2 = m + 1 := by rw [← hm2, List.length_append, ← HMl.out]; rfl
          have HM2 : Hid (m2 = (lead P x (k + 1)).length) := Lib.hid (by rw [HS.out]; exact hm2.symm)
          clear hm2
          go_roundw
          case rel => exact ⟨k + 1, p2, c2, m2, by omega, by omega, rfl, by go_num, HM2.out, HL2, HA2, HV2, HB2⟩
          case measure => simp [intOf]; omega
        · have HS := Lib.hid (lead_no hx he)
          have he2 : (x == mx) = false := by simp [he]
          rw [← HS.out] at HL HMl
          clear hx he
          go_wp2_with fail
          go_roundw
          case rel => exact ⟨k + 1, pu, cu, m, by omega, by omega, rfl, by go_num, HMl.out, HL, HA, HV, HB⟩
          case measure => simp [intOf]; omega
      · obtain rfl : k = nw := by omega
        go_wp2_with fail
        go_ret2
        exact ⟨_, rfl, HL.out, HB.out⟩
end Go.Proofs.Yteccbcbijfcpmaa.game

/- Leaders: the model's. -/
namespace Go.Proofs.Yteccbcbijfcpmaa.game
open Go.RowKit
open cards deal
set_option linter.unusedVariables false

set_option maxRecDepth 100000 in
set_option maxHeartbeats 2000000 in
theorem spec_ld (g : Gm) (p ps pw : Option Addr) (n c ns cs nw cw : Nat) (w : World) (hf : FitG n c ns cs nw cw p ps pw g) (hr : RdG w p ps pw g.l g.sc g.wr) :
    Calls Try.prog 41 #[gval g.s g.nx (.slice p n c) (.slice ps ns cs) (.slice pw nw cw)] w fun e w' => ∃ v, e = .returned (.tuple #[v, .bool (ldR g).2]) ∧ OwnI w' w.heap.size v (ldR g).1 ∧ Below w.heap.size w w' := by
  have HR := Lib.hid hr
  have HF := Lib.hid hf
  have HC := Lib.hid (fun w h => l8_game g p ps pw n c ns cs nw cw w hf h)
  clear hf hr
  cases hok : g.ok
  · have HT := Lib.hid (show ldR g = ([], false) by unfold ldR; rw [if_neg (by simp [hok])])
    rw [hok] at HC
    rw [HT.out]
    clear hok HT
    obtain ⟨s, nx, l, sc, wt⟩ := g
    simp only at HR HC ⊢
    have K1 : Hid (GBox ((w.alloc (Gv.obj ⟨27, s, nx, .slice p n c, .slice ps ns cs, .slice pw nw cw⟩)).alloc (.cells #[] 3)) w.heap.size ⟨27, s, nx, .slice p n c, .slice ps ns cs, .slice pw nw cw⟩) := Lib.hid ((GBox.newAt rfl rfl).alloc _)
    have HOz : Hid (OwnI ((w.alloc (Gv.obj ⟨27, s, nx, .slice p n c, .slice ps ns cs, .slice pw nw cw⟩)).alloc (.cells #[] 3)) w.heap.size (.slice (some ⟨w.heap.size + 1, 0, none⟩) 0 0) []) := Lib.hid (by have h := OwnI.empty (w.alloc (Gv.obj ⟨27, s, nx, .slice p n c, .slice ps ns cs, .slice pw nw cw⟩)) w.heap.size (by simp); simpa using h)
    go_enter Try.func41, Try.ntmps41
    go_upto_region 2 with fail
    obtain ⟨w0, ew, b⟩ : ∃ wOPN : World, wOPN = ((w.alloc (Gv.obj ⟨27, s, nx, .slice p n c, .slice ps ns cs, .slice pw nw cw⟩)).alloc (.cells #[] 3)) ∧ Below (((w.alloc (Gv.obj ⟨27, s, nx, .slice p n c, .slice ps ns cs, .slice pw nw cw⟩)).alloc (.cells #[] 3))).heap.size (((w.alloc (Gv.obj ⟨27, s, nx, .slice p n c, .slice ps ns cs, .slice pw nw cw⟩)).alloc (.cells #[] 3))) wOPN := ⟨_, rfl, Below.refl _ _⟩
    rw [← ew]
    clear ew
    have Sw0 := Lib.hid b.size
    have HB := Lib.hid (chain0 (w := w) (by repeat (first | with_reducible exact Below.refl _ _ | with_reducible exact HB.out | with_reducible apply Below.drew | with_reducible apply bdN | with_reducible refine Below.alloc ?_ (by first | exact Nat.le_refl _ | with_reducible exact HB.out.size | omega | (simp; done) | (simp; omega) | (have := HB.out.size; simp at *; omega)) _ | with_reducible refine Below.setCell ?_ (by first | exact Nat.le_refl _ | with_reducible exact HB.out.size | omega | (simp; done) | (simp; omega) | (have := HB.out.size; simp at *; omega)) _)) b)
    have HOz := Lib.hid (OwnI.below (by repeat (first | with_reducible exact HOz.out | with_reducible apply OwnI.drewN | with_reducible apply OwnI.drew | with_reducible apply OwnI.alloc)) b)
    have HR := Lib.hid (RdG.below (by repeat (first | with_reducible exact HR.out | with_reducible apply RdG.drewN | with_reducible apply RdG.drew | with_reducible apply RdG.alloc)) b)
    have K1 : Hid (GBox _ (w.heap.size) (⟨27, s, nx, .slice p n c, .slice ps ns cs, .slice pw nw cw⟩)) := Lib.hid (GBox.below (by repeat (first | with_reducible exact K1.out | with_reducible apply GBox.drewN | with_reducible apply GBox.drew | (with_reducible refine GBox.newAt ?_ ?_ <;> first | (simp; done) | rfl) | with_reducible apply GBox.alloc)) b)
    try clear k1a k1b k1c k1d k1e k1z
    have k1z := K1.out.lt
    obtain ⟨k1a, k1b, k1c, k1d, k1e⟩ := K1.out.cell
    clear b
    go_wp2_with fail
    refine ((HC.out _ HR.out)).mono ?_
    rintro e w1 ⟨rfl, b⟩
    have Sw1 := Lib.hid b.size
    have HB := Lib.hid (chain0 (w := w) (by repeat (first | with_reducible exact Below.refl _ _ | with_reducible exact HB.out | with_reducible apply Below.drew | with_reducible apply bdN | with_reducible refine Below.alloc ?_ (by first | exact Nat.le_refl _ | with_reducible exact HB.out.size | omega | (simp; done) | (simp; omega) | (have := HB.out.size; simp at *; omega)) _ | with_reducible refine Below.setCell ?_ (by first | exact Nat.le_refl _ | with_reducible exact HB.out.size | omega | (simp; done) | (simp; omega) | (have := HB.out.size; simp at *; omega)) _)) b)
    have HOz := Lib.hid (OwnI.below (by repeat (first | with_reducible exact HOz.out | with_reducible apply OwnI.drewN | with_reducible apply OwnI.drew | with_reducible apply OwnI.alloc)) b)
    have HR := Lib.hid (RdG.below (by repeat (first | with_reducible exact HR.out | with_reducible apply RdG.drewN | with_reducible apply RdG.drew | with_reducible apply RdG.alloc)) b)
    have K1 : Hid (GBox _ (w.heap.size) (⟨27, s, nx, .slice p n c, .slice ps ns cs, .slice pw nw cw⟩)) := Lib.hid (GBox.below (by repeat (first | with_reducible exact K1.out | with_reducible apply GBox.drewN | with_reducible apply GBox.drew | (with_reducible refine GBox.newAt ?_ ?_ <;> first | (simp; done) | rfl) | with_reducible apply GBox.alloc)) b)
    try clear k1a k1b k1c k1d k1e k1z
    have k1z := K1.out.lt
    obtain ⟨k1a, k1b, k1c, k1d, k1e⟩ := K1.out.cell
    clear b
    go_wp2_with fail
    go_ret2
    exact ⟨_, rfl, HOz.out, by repeat (first | with_reducible exact Below.refl _ _ | with_reducible exact HB.out | with_reducible apply Below.drew | with_reducible apply bdN | with_reducible refine Below.alloc ?_ (by first | exact Nat.le_refl _ | with_reducible exact HB.out.size | omega | (simp; done) | (simp; omega) | (have := HB.out.size; simp at *; omega)) _ | with_reducible refine Below.setCell ?_ (by first | exact Nat.le_refl _ | with_reducible exact HB.out.size | omega | (simp; done) | (simp; omega) | (have := HB.out.size; simp at *; omega)) _)⟩
  · have HO := Lib.hid (Gm.ok_iff.1 hok)
    have HT := Lib.hid (show ldR g = (ldr (pts g), true) by unfold ldR; rw [if_pos hok])
    obtain rfl : nw = ns := by rw [← HF.out.hw, ← HF.out.hs]; exact HO.out.eq
    have hn4 : nw ≤ 4 ∧ 1 ≤ nw := by have := HO.out.p4; have := HO.out.p1; have := HF.out.hs; omega
    obtain ⟨n4, n1⟩ := hn4
    have HP := Lib.hid (fun w h => l8_points g p ps pw n c nw cs cw w HF.out.hs HF.out.hw (by omega) HO.out.ts HO.out.tw h)
    have HPl := Lib.hid ((pts_len HO.out.eq).trans HF.out.hs)
    have HPb := Lib.hid (fun k x h => pts_bd HO.out (k := k) (x := x) h)
    rw [hok] at HC
    rw [HT.out]
    obtain ⟨P, hP⟩ : ∃ P, pts g = P := ⟨_, rfl⟩
    rw [hP] at HP HPl HPb ⊢
    have HMx := Lib.hid (fun p c w h => l8_best P (-1) p nw c w HPl.out (by omega) h)
    have HLe := Lib.hid (show ldr P = lead P (bst P (-1)) nw by unfold ldr; rw [HPl.out])
    rw [HLe.out]
    obtain ⟨mx, hmx⟩ : ∃ mx, bst P (-1) = mx := ⟨_, rfl⟩
    rw [hmx] at HMx ⊢
    have HLl := Lib.hid (fun k => lead_len P mx k)
    clear hok HT hP HLe hmx
    obtain ⟨s, nx, l, sc, wt⟩ := g
    simp only at HR HC HP ⊢
    have HOz : Hid (OwnI ((w.alloc (Gv.obj ⟨27, s, nx, .slice p n c, .slice ps nw cs, .slice pw nw cw⟩)).alloc (.cells #[] 3)) w.heap.size (.slice (some ⟨w.heap.size + 1, 0, none⟩) 0 0) (lead P mx 0)) := Lib.hid (by have h := OwnI.empty (w.alloc (Gv.obj ⟨27, s, nx, .slice p n c, .slice ps nw cs, .slice pw nw cw⟩)) w.heap.size (by simp); simpa [lead] using h)
    have K1 : Hid (GBox ((w.alloc (Gv.obj ⟨27, s, nx, .slice p n c, .slice ps nw cs, .slice pw nw cw⟩)).alloc (.cells #[] 3)) w.heap.size ⟨27, s, nx, .slice p n c, .slice ps nw cs, .slice pw nw cw⟩) := Lib.hid ((GBox.newAt rfl rfl).alloc _)
    go_enter Try.func41, Try.ntmps41
    go_upto_region 2 with fail
    obtain ⟨w0, ew, b⟩ : ∃ wOPN : World, wOPN = ((w.alloc (Gv.obj ⟨27, s, nx, .slice p n c, .slice ps nw cs, .slice pw nw cw⟩)).alloc (.cells #[] 3)) ∧ Below (((w.alloc (Gv.obj ⟨27, s, nx, .slice p n c, .slice ps nw cs, .slice pw nw cw⟩)).alloc (.cells #[] 3))).heap.size (((w.alloc (Gv.obj ⟨27, s, nx, .slice p n c, .slice ps nw cs, .slice pw nw cw⟩)).alloc (.cells #[] 3))) wOPN := ⟨_, rfl, Below.refl _ _⟩
    rw [← ew]
    clear ew
    have Sw0 := Lib.hid b.size
    have HB := Lib.hid (chain0 (w := w) (by repeat (first | with_reducible exact Below.refl _ _ | with_reducible exact HB.out | with_reducible apply Below.drew | with_reducible apply bdN | with_reducible refine Below.alloc ?_ (by first | exact Nat.le_refl _ | with_reducible exact HB.out.size | omega | (simp; done) | (simp; omega) | (have := HB.out.size; simp at *; omega)) _ | with_reducible refine Below.setCell ?_ (by first | exact Nat.le_refl _ | with_reducible exact HB.out.size | omega | (simp; done) | (simp; omega) | (have := HB.out.size; simp at *; omega)) _)) b)
    have HOz := Lib.hid (OwnI.below (by repeat (first | with_reducible exact HOz.out | with_reducible apply OwnI.drewN | with_reducible apply OwnI.drew | with_reducible apply OwnI.alloc)) b)
    have HR := Lib.hid (RdG.below (by repeat (first | with_reducible exact HR.out | with_reducible apply RdG.drewN | with_reducible apply RdG.drew | with_reducible apply RdG.alloc)) b)
    have K1 : Hid (GBox _ (w.heap.size) (⟨27, s, nx, .slice p n c, .slice ps nw cs, .slice pw nw cw⟩)) := Lib.hid (GBox.below (by repeat (first | with_reducible exact K1.out | with_reducible apply GBox.drewN | with_reducible apply GBox.drew | (with_reducible refine GBox.newAt ?_ ?_ <;> first | (simp; done) | rfl) | with_reducible apply GBox.alloc)) b)
    try clear k1a k1b k1c k1d k1e k1z
    have k1z := K1.out.lt
    obtain ⟨k1a, k1b, k1c, k1d, k1e⟩ := K1.out.cell
    clear b
    go_wp2_with fail
    refine ((HC.out _ HR.out)).mono ?_
    rintro e w1 ⟨rfl, b⟩
    have Sw1 := Lib.hid b.size
    have HB := Lib.hid (chain0 (w := w) (by repeat (first | with_reducible exact Below.refl _ _ | with_reducible exact HB.out | with_reducible apply Below.drew | with_reducible apply bdN | with_reducible refine Below.alloc ?_ (by first | exact Nat.le_refl _ | with_reducible exact HB.out.size | omega | (simp; done) | (simp; omega) | (have := HB.out.size; simp at *; omega)) _ | with_reducible refine Below.setCell ?_ (by first | exact Nat.le_refl _ | with_reducible exact HB.out.size | omega | (simp; done) | (simp; omega) | (have := HB.out.size; simp at *; omega)) _)) b)
    have HOz := Lib.hid (OwnI.below (by repeat (first | with_reducible exact HOz.out | with_reducible apply OwnI.drewN | with_reducible apply OwnI.drew | with_reducible apply OwnI.alloc)) b)
    have HR := Lib.hid (RdG.below (by repeat (first | with_reducible exact HR.out | with_reducible apply RdG.drewN | with_reducible apply RdG.drew | with_reducible apply RdG.alloc)) b)
    have K1 : Hid (GBox _ (w.heap.size) (⟨27, s, nx, .slice p n c, .slice ps nw cs, .slice pw nw cw⟩)) := Lib.hid (GBox.below (by repeat (first | with_reducible exact K1.out | with_reducible apply GBox.drewN | with_reducible apply GBox.drew | (with_reducible refine GBox.newAt ?_ ?_ <;> first | (simp; done) | rfl) | with_reducible apply GBox.alloc)) b)
    try clear k1a k1b k1c k1d k1e k1z
    have k1z := K1.out.lt
    obtain ⟨k1a, k1b, k1c, k1d, k1e⟩ := K1.out.cell
    clear b
    go_wp2_with fail
    refine (HP.out _ HR.out).mono ?_
    rintro e w2 ⟨v, rfl, hv, b⟩
    have HV := Lib.hid (OwnI.base hv HB.out.size)
    have HA0 : Hid (Ap (.slice (some ⟨w.heap.size + 1, 0, none⟩) 0 0) v) := Lib.hid (fun g e1 e2 => by have e1 : some (w.heap.size + 1) = some g := e1; injection e1 with e1; have h1 := (hv.span g e2).1; have h2 := (HOz.out.span (w.heap.size + 1) rfl).2; omega)
    obtain ⟨pv, cv, rfl, _⟩ := hv.form
    rw [HPl.out] at HV hv HA0 ⊢
    clear hv
    have Sw2 := Lib.hid b.size
    have HB := Lib.hid (chain0 (w := w) (by repeat (first | with_reducible exact Below.refl _ _ | with_reducible exact HB.out | with_reducible apply Below.drew | with_reducible apply bdN | with_reducible refine Below.alloc ?_ (by first | exact Nat.le_refl _ | with_reducible exact HB.out.size | omega | (simp; done) | (simp; omega) | (have := HB.out.size; simp at *; omega)) _ | with_reducible refine Below.setCell ?_ (by first | exact Nat.le_refl _ | with_reducible exact HB.out.size | omega | (simp; done) | (simp; omega) | (have := HB.out.size; simp at *; omega)) _)) b)
    have HOz := Lib.hid (OwnI.below (by repeat (first | with_reducible exact HOz.out | with_reducible apply OwnI.drewN | with_reducible apply OwnI.drew | with_reducible apply OwnI.alloc)) b)
    have HR := Lib.hid (RdG.below (by repeat (first | with_reducible exact HR.out | with_reducible apply RdG.drewN | with_reducible apply RdG.drew | with_reducible apply RdG.alloc)) b)
    have K1 : Hid (GBox _ (w.heap.size) (⟨27, s, nx, .slice p n c, .slice ps nw cs, .slice pw nw cw⟩)) := Lib.hid (GBox.below (by repeat (first | with_reducible exact K1.out | with_reducible apply GBox.drewN | with_reducible apply GBox.drew | (with_reducible refine GBox.newAt ?_ ?_ <;> first | (simp; done) | rfl) | with_reducible apply GBox.alloc)) b)
    try clear k1a k1b k1c k1d k1e k1z
    have k1z := K1.out.lt
    obtain ⟨k1a, k1b, k1c, k1d, k1e⟩ := K1.out.cell
    clear b
    clear k1a k1b k1c k1d k1e k1z
    go_wp2_with fail
    go_loopw [4, 6] (fun u i wr => ∃ (k : Nat) (pu : Option Addr) (cu m : Nat), k ≤ nw ∧ m ≤ k ∧ u = .slice pu m cu ∧ i = .int .i64 k ∧ m = (lead P mx k).length ∧ Hid (OwnI wr w.heap.size (.slice pu m cu) (lead P mx k)) ∧ Hid (Ap (.slice pu m cu) (.slice pv nw cv)) ∧ Hid (OwnI wr w.heap.size (.slice pv nw cv) P) ∧ Hid (Below w.heap.size w wr)) (fun _ i _ => nw - (intOf i).toNat)
    case atStart => exact ⟨0, _, _, 0, Nat.zero_le _, Nat.le_refl _, rfl, rfl, rfl, HOz, HA0, HV, HB⟩
    case round =>
      clear HOz HA0 HB HV
      obtain ⟨k, pu, cu, m, hk, hm, rfl, rfl, hml, HL, HA, HV, HB⟩ := hrel
      have HMl := Lib.hid hml
      clear hml
      have m0 : (0 : Int) ≤ (k : Int) := by omega
      by_cases hlt : k < nw
      · have m1 : (k : Int) < (nw : Int) := by omega
        obtain ⟨b1, o1, x, rfl, hb1, hx, c0⟩ := HV.out.rd.int (k := k) (by rw [HPl.out]; exact hlt)
        have HMy := Lib.hid (fun w' h => HMx.out (some ⟨b1, o1, none⟩) cv w' h)
        have HVr := Lib.hid HV.out.rd
        by_cases he : x = mx
        · have HS := Lib.hid (lead_yes hx he)
          subst he
          have hL2 := (HLl.out (k + 1))
          rw [HS.out] at hL2
          rw [List.length_append, ← HMl.out] at hL2
          clear hx
          go_upto_region 8 with fail
          have qc0 := fun d os => cell_regrown c0 d os
          refine wp_region_quiet_below (by kernel_rfl) (by kernel_rfl) ?_
          repeat (first | go_big_quiet_step ((go_at_call 79; with_reducible exact Calls.regrown_of (HMy.out _ (HVr.out.below (below_regrown _ _ _))))) | quiet_step ((go_at_call 79; with_reducible exact Calls.regrown_of (HMy.out _ (HVr.out.below (below_regrown _ _ _))))))
          refine wpQuiet_nil ?_
          intro w3 hw2
          have b : Below wr.heap.size wr w3 := by obtain ⟨r, hr⟩ := hw2; rw [hr]; exact below_regrown _ _ _
          clear hw2 qc0
          have Sw3 := Lib.hid b.size
          have HB := Lib.hid (chain0 (w := w) (by repeat (first | with_reducible exact Below.refl _ _ | with_reducible exact HB.out | with_reducible apply Below.drew | with_reducible apply bdN | with_reducible refine Below.alloc ?_ (by first | exact Nat.le_refl _ | with_reducible exact HB.out.size | omega | (simp; done) | (simp; omega) | (have := HB.out.size; simp at *; omega)) _ | with_reducible refine Below.setCell ?_ (by first | exact Nat.le_refl _ | with_reducible exact HB.out.size | omega | (simp; done) | (simp; omega) | (have := HB.out.size; simp at *; omega)) _)) b)
          have HVr := Lib.hid (Rd.below (by repeat (first | with_reducible exact HVr.out | with_reducible apply Rd.drewN | with_reducible apply Rd.drew | with_reducible apply Rd.alloc)) b)
          have HL := Lib.hid (OwnI.below (by repeat (first | with_reducible exact HL.out | with_reducible apply OwnI.drewN | with_reducible apply OwnI.drew | with_reducible apply OwnI.alloc)) b)
          have HV := Lib.hid (OwnI.below (by repeat (first | with_reducible exact HV.out | with_reducible apply OwnI.drewN | with_reducible apply OwnI.drew | with_reducible apply OwnI.alloc)) b)
          clear b
          clear c0
          go_wp2_with (at_builtin; refine append_int_at rfl (.tmp 27) (.tmp 29) rfl w.heap.size _ (lead P x k) (k : Int) _ _ rfl rfl rfl HL.out (by have := HMl.out; omega) HB.out.size ?_; intro v1 w5 hO1 hB1 hG1 hA1; have HL2 := Lib.hid hO1; have HB2 := Lib.hid (HB.out.trans hB1); have HV2 := Lib.hid (OwnI.past HV.out hG1 HA.out); have HA2 := Lib.hid (Ap.next HA.out (fun q hq => by have := (HV.out.span q hq).2; omega) hA1); clear hO1 hB1 hG1 hA1)
          obtain ⟨p2, c2, rfl, _⟩ := HL2.out.form
          obtain ⟨m2, hm2⟩ : ∃ m2, (lead P x k ++ [(k : Int)]).length = m2 := ⟨_, rfl⟩
          rw [hm2] at HL2 HA2 ⊢
          rw [← HS.out] at HL2
          have hm3 : m2 = m + 1 := by rw [← hm2, List.length_append, ← HMl.out]; rfl
          have HM2 : Hid (m2 = (lead P x (k + 1)).length) := Lib.hid (by rw [HS.out]; exact hm2.symm)
          clear hm2
          go_roundw
          case rel => exact ⟨k + 1, p2, c2, m2, by omega, by omega, rfl, by go_num, HM2.out, HL2, HA2, HV2, HB2⟩
          case measure => simp [intOf]; omega
        · have HS := Lib.hid (lead_no hx he)
          have he2 : (x == mx) = false := by simp [he]
          rw [← HS.out] at HL HMl
          clear hx he
          go_upto_region 8 with fail
          have qc0 := fun d os => cell_regrown c0 d os
          refine wp_region_quiet_below (by kernel_rfl) (by kernel_rfl) ?_
          repeat (first | go_big_quiet_step ((go_at_call 79; with_reducible exact Calls.regrown_of (HMy.out _ (HVr.out.below (below_regrown _ _ _))))) | quiet_step ((go_at_call 79; with_reducible exact Calls.regrown_of (HMy.out _ (HVr.out.below (below_regrown _ _ _))))))
          refine wpQuiet_nil ?_
          intro w3 hw2
          have b : Below wr.heap.size wr w3 := by obtain ⟨r, hr⟩ := hw2; rw [hr]; exact below_regrown _ _ _
          clear hw2 qc0
          have Sw3 := Lib.hid b.size
          have HB := Lib.hid (chain0 (w := w) (by repeat (first | with_reducible exact Below.refl _ _ | with_reducible exact HB.out | with_reducible apply Below.drew | with_reducible apply bdN | with_reducible refine Below.alloc ?_ (by first | exact Nat.le_refl _ | with_reducible exact HB.out.size | omega | (simp; done) | (simp; omega) | (have := HB.out.size; simp at *; omega)) _ | with_reducible refine Below.setCell ?_ (by first | exact Nat.le_refl _ | with_reducible exact HB.out.size | omega | (simp; done) | (simp; omega) | (have := HB.out.size; simp at *; omega)) _)) b)
          have HVr := Lib.hid (Rd.below (by repeat (first | with_reducible exact HVr.out | with_reducible apply Rd.drewN | with_reducible apply Rd.drew | with_reducible apply Rd.alloc)) b)
          have HL := Lib.hid (OwnI.below (by repeat (first | with_reducible exact HL.out | with_reducible apply OwnI.drewN | with_reducible apply OwnI.drew | with_reducible apply OwnI.alloc)) b)
          have HV := Lib.hid (OwnI.below (by repeat (first | with_reducible exact HV.out | with_reducible apply OwnI.drewN | with_reducible apply OwnI.drew | with_reducible apply OwnI.alloc)) b)
          clear b
          clear c0
          go_wp2_with fail
          go_roundw
          case rel => exact ⟨k + 1, pu, cu, m, by omega, by omega, rfl, by go_num, HMl.out, HL, HA, HV, HB⟩
          case measure => simp [intOf]; omega
      · obtain rfl : k = nw := by omega
        go_wp2_with fail
        go_ret2
        exact ⟨_, rfl, HL.out, HB.out⟩
end Go.Proofs.Yteccbcbijfcpmaa.game

