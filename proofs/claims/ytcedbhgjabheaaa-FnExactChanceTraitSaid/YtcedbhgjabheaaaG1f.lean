/- ChanceTrait: the program's. -/
import Derived.Test.YtcedbhgjabheaaaG1e
namespace Go.Proofs.Ytcedbhgjabheaaa.chance
open Go.RowKit
open cards reg parting
set_option linter.unusedVariables false

/-- What ChanceTrait counts. -/
def ctN (t n : Nat) (l : List Cd) : Nat := cho (cntT t 0 l) n + cho (cntT t 1 l) n + cho (cntT t 2 l) n
noncomputable def ctR (l : List Cd) (i j : Int) : (Int × Int) × Bool := if handB l = true ∧ (0 ≤ i ∧ i ≤ 3) ∧ (1 ≤ j ∧ j ≤ 3) ∧ j ≤ l.length then (frac (ctN i.toNat j.toNat l) (cho l.length j.toNat), true) else ((0, 0), false)
theorem ctR_no {l : List Cd} {i j : Int} (h : ¬ (handB l = true ∧ (0 ≤ i ∧ i ≤ 3) ∧ (1 ≤ j ∧ j ≤ 3) ∧ j ≤ l.length)) : ctR l i j = ((0, 0), false) := if_neg h

set_option maxRecDepth 100000 in
set_option maxHeartbeats 4000000 in
theorem impl_ct (l : List Cd) (i j : Int) (p : Option Addr) (n c : Nat) (w : World) (hn : l.length = n) (hl : n ≤ 1000000000) (hr : Rd w p (flat l)) (hcp : n ≤ c) :
    Calls Try.prog 39 #[.slice p n c, .int .i64 i, .int .i64 j] w fun e w' => e = .returned (.tuple #[.agg (fv (ctR l i j).1), .bool (ctR l i j).2]) ∧ Below w.heap.size w w' := by
  have KK : Hid (VB ((w.alloc (.cells #[.int .i64 i] 3)).alloc (.cells (fv (0, 0)) 24)) w.heap.size 3 #[.int .i64 i]) := Lib.hid ((VB.newAt rfl rfl).alloc _)
  have K0 : Hid (VB ((w.alloc (.cells #[.int .i64 i] 3)).alloc (.cells (fv (0, 0)) 24)) (w.heap.size + 1) 24 (fv (0, 0))) := Lib.hid (VB.newAt (by simp) rfl)
  have HBs : Hid (Below w.heap.size w ((w.alloc (.cells #[.int .i64 i] 3)).alloc (.cells (fv (0, 0)) 24))) := Lib.hid (((Below.refl _ _).alloc (Nat.le_refl _) _).alloc (by simp) _)
  have HN := Lib.hid hn
  have HR := Lib.hid (Rd.below hr HBs.out)
  have HIs := Lib.hid (fun w (hr : Rd w p (flat l)) => is_hand l p n c w HN.out hl hr)
  clear hn hr
  cases hh : handB l
  · have HT : Hid (ctR l i j = ((0, 0), false)) := Lib.hid (ctR_no (by simp [hh]))
    rw [hh] at HIs
    clear hh
    go_enter Try.func39, Try.ntmps39
    go_wp2_with fail
    refine (HIs.out _ HR.out).mono ?_
    rintro e w1 ⟨rfl, b⟩
    have K0 := Lib.hid (K0.out.below b)
    have HB := Lib.hid (HBs.out.trans (b.mono HBs.out.size))
    clear b
    go_wp2_with ((with_reducible refine store_a2 rfl _ _ rfl K0.out ?_ (0, 0) ?_ ?_); rfl; rfl; intro w2 hM hG)
    try simp only [Exit.inBlock, Exit.then]
    refine bodyPost_ret (res_vb2 Try.results39 rfl hM Try.underlying24 (a2_info rfl)) rfl ?_
    exact ⟨by rw [HT.out]; rfl, HB.out.grown hG HB.out.size (fun k hk => by injection hk with hk; omega)⟩
  rw [hh] at HIs
  rcases (show i < 0 ∨ (¬ i < 0 ∧ 4 ≤ i) ∨ ((¬ i < 0 ∧ ¬ 4 ≤ i) ∧ j < 1) ∨ ((¬ i < 0 ∧ ¬ 4 ≤ i) ∧ (¬ j < 1 ∧ 3 < j)) ∨ ((0 ≤ i ∧ i ≤ 3) ∧ (1 ≤ j ∧ j ≤ 3)) by omega) with h | ⟨h, h2⟩ | ⟨⟨h, h2⟩, h3⟩ | ⟨⟨h, h2⟩, h3, h4⟩ | ⟨⟨h, h2⟩, h3, h4⟩
  iterate 4 (
    · have HT : Hid (ctR l i j = ((0, 0), false)) := Lib.hid (ctR_no (by omega))
      clear hh
      go_enter Try.func39, Try.ntmps39
      go_wp2_with fail
      refine (HIs.out _ HR.out).mono ?_
      rintro e w1 ⟨rfl, b⟩
      have K0 := Lib.hid (K0.out.below b)
      have c0 : w1.cell? ⟨w.heap.size, 0, none⟩ = some (.int .i64 i) := VB.at_ (KK.out.below b) (j := 0) rfl
      have HB := Lib.hid (HBs.out.trans (b.mono HBs.out.size))
      clear b
      go_wp2_with ((with_reducible refine store_a2 rfl _ _ rfl K0.out ?_ (0, 0) ?_ ?_); rfl; rfl; intro w2 hM hG)
      try simp only [Exit.inBlock, Exit.then]
      refine bodyPost_ret (res_vb2 Try.results39 rfl hM Try.underlying24 (a2_info rfl)) rfl ?_
      exact ⟨by rw [HT.out]; rfl, HB.out.grown hG HB.out.size (fun k hk => by injection hk with hk; omega)⟩)
  · have hHd := handB_true.1 hh
    have h27 : n ≤ 27 := by have := hHd.1; have := HN.out; omega
    obtain ⟨t, rfl⟩ : ∃ t : Nat, i = (t : Int) := ⟨i.toNat, by omega⟩
    obtain ⟨N, rfl⟩ : ∃ N : Nat, j = ((N + 1 : Nat) : Int) := ⟨j.toNat - 1, by omega⟩
    have hT : ctR l t ((N + 1 : Nat) : Int) = mdR (tot (fun d => nat (sameT t d)) (N + 1) l []) (cho n (N + 1)) := by
      rw [tot_trait t N l hHd.2.1]
      unfold ctR
      by_cases hle : ((N + 1 : Nat) : Int) ≤ l.length
      · rw [if_pos ⟨hh, ⟨by omega, by omega⟩, ⟨by omega, by omega⟩, hle⟩, HN.out, mdR_1 (cho_pos (by have := HN.out; omega))]; rfl
      · rw [if_neg (fun hc => hle hc.2.2.2), mdR_0 (cho_none (by have := HN.out; omega))]
    have HC := Lib.hid (fun W hv (hr : Rd W p (flat l)) => chance_drawn 75 #[] #[.pointer (some ⟨w.heap.size, 0, none⟩)] W l (N + 1) (sameT t) (fit_trait W l t w.heap.size (N + 1) (by omega) (by omega) hv) p n c HN.out hcp (by omega) (by omega) hr (Nat.le_trans (cho_27 h27) (by omega)))
    rw [← hT] at HC
    obtain ⟨M, hM⟩ : ∃ M : Int, ((N + 1 : Nat) : Int) = M := ⟨_, rfl⟩
    rw [hM] at HC h3 h4 ⊢
    have h5 : ¬ (t : Int) < 0 := by omega
    have h6 : ¬ 4 ≤ (t : Int) := by omega
    have h7 : ¬ M < 1 := by omega
    have h8 : ¬ 3 < M := by omega
    clear hh hT hHd hM
    generalize ctR l t M = r at *
    obtain ⟨fr, ok⟩ := r
    dsimp only at HC ⊢
    go_enter Try.func39, Try.ntmps39
    go_wp2_with fail
    refine (HIs.out _ HR.out).mono ?_
    rintro e w1 ⟨rfl, b⟩
    have K0 := Lib.hid (K0.out.below b)
    have KK := Lib.hid (KK.out.below b)
    have HR := Lib.hid (HR.out.below b)
    have c0 : w1.cell? ⟨w.heap.size, 0, none⟩ = some (.int .i64 t) := VB.at_ KK.out (j := 0) rfl
    have HB := Lib.hid (HBs.out.trans (b.mono HBs.out.size))
    clear b
    go_wp2_with fail
    refine (HC.out _ KK.out HR.out).mono ?_
    rintro e w2 ⟨rfl, b⟩
    have K0 := Lib.hid (K0.out.below b)
    have HB := Lib.hid (HB.out.trans (b.mono HB.out.size))
    clear b
    go_wp2_with ((with_reducible refine store_a2 rfl _ _ rfl K0.out ?_ fr ?_ ?_); rfl; rfl; intro w3 hM hG)
    try simp only [Exit.inBlock, Exit.then]
    refine bodyPost_ret (res_vb2 Try.results39 rfl hM Try.underlying24 (a2_info rfl)) rfl ?_
    exact ⟨rfl, HB.out.grown hG HB.out.size (fun k hk => by injection hk with hk; omega)⟩
end Go.Proofs.Ytcedbhgjabheaaa.chance
