/- SharedMiddle and HasQuad: the program and the model. -/
import Derived.Test.YtjmlefcmhjodeaaXt
namespace Go.Proofs.Ytjmlefcmhjodeaa.others
open Go.RowKit
open Go.Maps (Keyed)
open cards reg
set_option linter.unusedVariables false

theorem res_vb3 {fn : Func} {i u v : Tmp} {T : TypeId} (hf : fn.results = #[.cell i T, .tmp u, .tmp v]) {tmps : Array Value} {w : World} {g : Nat} {cs : Array Value} (ht : tmps.getD i undef = .pointer (some ⟨g, 0, none⟩)) (h : VB w g T cs) {K : Nat} {e : TypeId} (hu : (Try.prog).underlying T = some (.array K e)) (hi : ((Try.prog).info? T).map (·.size) = some cs.size) :
    (results fn tmps).run Try.prog w = .ok (.tuple #[.agg cs, tmps.getD u undef, tmps.getD v undef]) w := by
  have hl := h.load hu hi
  rw [Array.getD_eq_getD_getElem?] at ht
  simp only [results, hf]
  simp [ht, asAddr, hl, Result.andThen]
noncomputable def hqR (l : List Cd) : Bool × Bool := if handB l = true then (decide (1 < (best l 81).2), true) else (false, false)
noncomputable def smR (l : List Cd) : Cd × Int × Bool := if handB l = true ∧ ¬ l.length < 2 then ((best l 81).1, (best l 81).2, true) else (zero, 0, false)
theorem smR_no {l : List Cd} (h : handB l = false ∨ l.length < 2) : smR l = (zero, 0, false) := by
  unfold smR
  rw [if_neg]
  rintro ⟨h1, h2⟩
  rcases h with h | h
  · rw [h] at h1; cases h1
  · exact h2 h

set_option maxRecDepth 100000 in
set_option maxHeartbeats 4000000 in
theorem impl_hq (l : List Cd) (p : Option Addr) (n cp : Nat) (w : World) (hn : l.length = n) (hl : n ≤ 1000000000) (hr : Rd w p (flat l)) :
    Calls Try.prog 35 #[.slice p n cp] w fun e w' => e = .returned (.tuple #[.bool (hqR l).1, .bool (hqR l).2]) ∧ Below w.heap.size w w' := by
  have HN := Lib.hid hn
  have HR := Lib.hid hr
  clear hn hr
  go_enter Try.func35, Try.ntmps35
  go_wp2_with fail
  refine ((is_hand l p n cp _ HN.out hl (by repeat (first | with_reducible exact HR.out | with_reducible apply Rd.drewN | with_reducible apply Rd.drew | with_reducible apply Rd.alloc)))).mono ?_
  rintro e w1 ⟨rfl, b⟩
  have Sw1 := Lib.hid b.size
  have HB := Lib.hid (chain0 (w := w) (by repeat (first | with_reducible exact Below.refl _ _ | with_reducible exact HB.out | with_reducible apply Below.drew | with_reducible apply bdN | with_reducible refine Below.alloc ?_ (by first | exact Nat.le_refl _ | with_reducible exact HB.out.size | omega | (simp; done) | (simp; omega) | (have := HB.out.size; simp at *; omega)) _ | with_reducible refine Below.setCell ?_ (by first | exact Nat.le_refl _ | with_reducible exact HB.out.size | omega | (simp; done) | (simp; omega) | (have := HB.out.size; simp at *; omega)) _)) b)
  have HR := Lib.hid (Rd.below (by repeat (first | with_reducible exact HR.out | with_reducible apply Rd.drewN | with_reducible apply Rd.drew | with_reducible apply Rd.alloc)) b)
  clear b
  cases hh : handB l
  · have HT := Lib.hid (show hqR l = (false, false) by unfold hqR; rw [if_neg (by simp [hh])])
    clear hh
    go_wp2_with fail
    go_ret2
    exact ⟨by rw [HT.out]; rfl, by repeat (first | with_reducible exact Below.refl _ _ | with_reducible exact HB.out | with_reducible apply Below.drew | with_reducible apply bdN | with_reducible refine Below.alloc ?_ (by first | exact Nat.le_refl _ | with_reducible exact HB.out.size | omega | (simp; done) | (simp; omega) | (have := HB.out.size; simp at *; omega)) _ | with_reducible refine Below.setCell ?_ (by first | exact Nat.le_refl _ | with_reducible exact HB.out.size | omega | (simp; done) | (simp; omega) | (have := HB.out.size; simp at *; omega)) _)⟩
  · have HH := Lib.hid (handB_true.1 hh)
    have HT := Lib.hid (show hqR l = (decide (1 < (best l 81).2), true) by unfold hqR; rw [if_pos hh])
    have HMp := Lib.hid (fun w h => most_pairs l p n cp w HN.out (by have := HH.out.1; have := HN.out; omega) h HH.out.2.1 HH.out.2.2)
    generalize best l 81 = bb at *
    obtain ⟨bc, bt⟩ := bb
    dsimp only at HMp HT
    clear hh
    go_wp2_with fail
    refine ((HMp.out _ (by repeat (first | with_reducible exact HR.out | with_reducible apply Rd.drewN | with_reducible apply Rd.drew | with_reducible apply Rd.alloc)))).mono ?_
    rintro e w2 ⟨rfl, b⟩
    have Sw2 := Lib.hid b.size
    have HB := Lib.hid (chain0 (w := w) (by repeat (first | with_reducible exact Below.refl _ _ | with_reducible exact HB.out | with_reducible apply Below.drew | with_reducible apply bdN | with_reducible refine Below.alloc ?_ (by first | exact Nat.le_refl _ | with_reducible exact HB.out.size | omega | (simp; done) | (simp; omega) | (have := HB.out.size; simp at *; omega)) _ | with_reducible refine Below.setCell ?_ (by first | exact Nat.le_refl _ | with_reducible exact HB.out.size | omega | (simp; done) | (simp; omega) | (have := HB.out.size; simp at *; omega)) _)) b)
    have HR := Lib.hid (Rd.below (by repeat (first | with_reducible exact HR.out | with_reducible apply Rd.drewN | with_reducible apply Rd.drew | with_reducible apply Rd.alloc)) b)
    clear b
    go_wp2_with fail
    go_ret2
    exact ⟨by rw [HT.out]; rfl, by repeat (first | with_reducible exact Below.refl _ _ | with_reducible exact HB.out | with_reducible apply Below.drew | with_reducible apply bdN | with_reducible refine Below.alloc ?_ (by first | exact Nat.le_refl _ | with_reducible exact HB.out.size | omega | (simp; done) | (simp; omega) | (have := HB.out.size; simp at *; omega)) _ | with_reducible refine Below.setCell ?_ (by first | exact Nat.le_refl _ | with_reducible exact HB.out.size | omega | (simp; done) | (simp; omega) | (have := HB.out.size; simp at *; omega)) _)⟩

set_option maxRecDepth 100000 in
set_option maxHeartbeats 4000000 in
theorem spec_hq (l : List Cd) (p : Option Addr) (n cp : Nat) (w : World) (hn : l.length = n) (hl : n ≤ 1000000000) (hr : Rd w p (flat l)) :
    Calls Try.prog 34 #[.slice p n cp] w fun e w' => e = .returned (.tuple #[.bool (hqR l).1, .bool (hqR l).2]) ∧ Below w.heap.size w w' := by
  have HN := Lib.hid hn
  have HR := Lib.hid hr
  clear hn hr
  go_enter Try.func34, Try.ntmps34
  go_wp2_with fail
  refine ((l2_hand l p n cp _ HN.out hl (by repeat (first | with_reducible exact HR.out | with_reducible apply Rd.drewN | with_reducible apply Rd.drew | with_reducible apply Rd.alloc)))).mono ?_
  rintro e w1 ⟨rfl, b⟩
  have Sw1 := Lib.hid b.size
  have HB := Lib.hid (chain0 (w := w) (by repeat (first | with_reducible exact Below.refl _ _ | with_reducible exact HB.out | with_reducible apply Below.drew | with_reducible apply bdN | with_reducible refine Below.alloc ?_ (by first | exact Nat.le_refl _ | with_reducible exact HB.out.size | omega | (simp; done) | (simp; omega) | (have := HB.out.size; simp at *; omega)) _ | with_reducible refine Below.setCell ?_ (by first | exact Nat.le_refl _ | with_reducible exact HB.out.size | omega | (simp; done) | (simp; omega) | (have := HB.out.size; simp at *; omega)) _)) b)
  have HR := Lib.hid (Rd.below (by repeat (first | with_reducible exact HR.out | with_reducible apply Rd.drewN | with_reducible apply Rd.drew | with_reducible apply Rd.alloc)) b)
  clear b
  cases hh : handB l
  · have HT := Lib.hid (show hqR l = (false, false) by unfold hqR; rw [if_neg (by simp [hh])])
    clear hh
    go_wp2_with fail
    go_ret2
    exact ⟨by rw [HT.out]; rfl, by repeat (first | with_reducible exact Below.refl _ _ | with_reducible exact HB.out | with_reducible apply Below.drew | with_reducible apply bdN | with_reducible refine Below.alloc ?_ (by first | exact Nat.le_refl _ | with_reducible exact HB.out.size | omega | (simp; done) | (simp; omega) | (have := HB.out.size; simp at *; omega)) _ | with_reducible refine Below.setCell ?_ (by first | exact Nat.le_refl _ | with_reducible exact HB.out.size | omega | (simp; done) | (simp; omega) | (have := HB.out.size; simp at *; omega)) _)⟩
  · have HH := Lib.hid (handB_true.1 hh)
    have HT := Lib.hid (show hqR l = (decide (1 < (best l 81).2), true) by unfold hqR; rw [if_pos hh])
    have HTh := Lib.hid (fun k (hk : k < 81) w h => l2_through l (cdAt ((k : Nat) : Int)) p n cp w HN.out (by have := HH.out.1; have := HN.out; omega) h HH.out.2.1 (cdAt_ok (by omega) (by omega)) HH.out.2.2)
    clear hh
    go_wp2_with fail
    go_loopw [4] (fun i wr => ∃ k : Nat, k ≤ 81 ∧ i = .int .i64 k ∧ Hid (∀ j : Nat, j < k → thr l (cdAt (j : Int)) l.length ≤ 1) ∧ Hid (Rd wr p (flat l)) ∧ Hid (Below w.heap.size w wr)) (fun i _ => 81 - (intOf i).toNat)
    case atStart => exact ⟨0, by omega, rfl, Lib.hid (fun j hj => absurd hj (Nat.not_lt_zero j)), HR, HB⟩
    case round =>
      clear HR HB
      obtain ⟨k, hk, rfl, HNo, HR, HB⟩ := hrel
      have m0 : (0 : Int) ≤ (k : Int) := by omega
      by_cases hlt : k < 81
      · have m1 : (k : Int) < 81 := by omega
        have HA := Lib.hid (fun w => l2_at (k : Int) w m0 (by omega))
        have HTk := Lib.hid (HTh.out k hlt)
        have HNe := Lib.hid HN.out
        obtain ⟨t, ht⟩ : ∃ t, thr l (cdAt (k : Int)) n = t := ⟨_, rfl⟩
        have hbd := thr_bd l (cdAt (k : Int)) n
        rw [ht] at HTk hbd
        have HTe := Lib.hid ht
        obtain ⟨c, hc⟩ : ∃ c, cdAt (k : Int) = c := ⟨_, rfl⟩
        rw [hc] at HTk HA HTe
        have HCe := Lib.hid hc
        clear ht hc
        obtain ⟨hb0, hb1⟩ := hbd
        have h27 : n ≤ 27 := by have := HH.out.1; have := HN.out; omega
        go_wp2_with fail
        refine ((HA.out _)).mono ?_
        rintro e w2 ⟨rfl, b⟩
        have Sw2 := Lib.hid b.size
        have HB := Lib.hid (chain0 (w := w) (by repeat (first | with_reducible exact Below.refl _ _ | with_reducible exact HB.out | with_reducible apply Below.drew | with_reducible apply bdN | with_reducible refine Below.alloc ?_ (by first | exact Nat.le_refl _ | with_reducible exact HB.out.size | omega | (simp; done) | (simp; omega) | (have := HB.out.size; simp at *; omega)) _ | with_reducible refine Below.setCell ?_ (by first | exact Nat.le_refl _ | with_reducible exact HB.out.size | omega | (simp; done) | (simp; omega) | (have := HB.out.size; simp at *; omega)) _)) b)
        have HR := Lib.hid (Rd.below (by repeat (first | with_reducible exact HR.out | with_reducible apply Rd.drewN | with_reducible apply Rd.drew | with_reducible apply Rd.alloc)) b)
        clear b
        go_wp2_with fail
        refine ((HTk.out _ (by repeat (first | with_reducible exact HR.out | with_reducible apply Rd.drewN | with_reducible apply Rd.drew | with_reducible apply Rd.alloc)))).mono ?_
        rintro e w3 ⟨rfl, b⟩
        have Sw3 := Lib.hid b.size
        have HB := Lib.hid (chain0 (w := w) (by repeat (first | with_reducible exact Below.refl _ _ | with_reducible exact HB.out | with_reducible apply Below.drew | with_reducible apply bdN | with_reducible refine Below.alloc ?_ (by first | exact Nat.le_refl _ | with_reducible exact HB.out.size | omega | (simp; done) | (simp; omega) | (have := HB.out.size; simp at *; omega)) _ | with_reducible refine Below.setCell ?_ (by first | exact Nat.le_refl _ | with_reducible exact HB.out.size | omega | (simp; done) | (simp; omega) | (have := HB.out.size; simp at *; omega)) _)) b)
        have HR := Lib.hid (Rd.below (by repeat (first | with_reducible exact HR.out | with_reducible apply Rd.drewN | with_reducible apply Rd.drew | with_reducible apply Rd.alloc)) b)
        clear b
        by_cases hcmp : 1 < t
        · have HF := Lib.hid (show decide (1 < (best l 81).2) = true from decide_eq_true (best_more.2 ⟨k, hlt, by rw [HCe.out, HNe.out, HTe.out]; exact hcmp⟩))
          go_wp2_with fail
          go_ret2
          exact ⟨by rw [HT.out, HF.out]; rfl, HB.out⟩
        · have HN2 : Hid (∀ j : Nat, j < k + 1 → thr l (cdAt (j : Int)) l.length ≤ 1) := Lib.hid (fun j hj => by
            by_cases e : j = k
            · subst e; rw [HCe.out, HNe.out, HTe.out]; omega
            · exact HNo.out j (by omega))
          go_wp2_with fail
          go_roundw
          case rel => exact ⟨k + 1, by omega, by go_num, HN2, HR, HB⟩
          case measure => simp [intOf]; omega
      · obtain rfl : k = 81 := by omega
        have HF := Lib.hid (show decide (1 < (best l 81).2) = false from decide_eq_false (fun h => by
          obtain ⟨j, hj, h1⟩ := best_more.1 h
          have := HNo.out j hj
          omega))
        go_wp2_with fail
        go_ret2
        exact ⟨by rw [HT.out, HF.out]; rfl, HB.out⟩

set_option maxRecDepth 100000 in
set_option maxHeartbeats 4000000 in
theorem impl_sm (l : List Cd) (p : Option Addr) (n cp : Nat) (w : World) (hn : l.length = n) (hl : n ≤ 1000000000) (hr : Rd w p (flat l)) :
    Calls Try.prog 37 #[.slice p n cp] w fun e w' => e = .returned (.tuple #[(smR l).1.val, .int .i64 (smR l).2.1, .bool (smR l).2.2]) ∧ Below w.heap.size w w' := by
  have HN := Lib.hid hn
  have HR0 := Lib.hid hr
  clear hn hr
  have K2 : Hid (Box (w.alloc zero.obj) w.heap.size zero) := Lib.hid (Box.newAt rfl rfl)
  have HB : Hid (Below w.heap.size w (w.alloc zero.obj)) := Lib.hid ((Below.refl _ _).alloc (Nat.le_refl _) _)
  by_cases h2 : n < 2
  · have HT := Lib.hid (smR_no (l := l) (.inr (by rw [HN.out]; exact h2)))
    have m2 : (n : Int) < 2 := by omega
    go_enter Try.func37, Try.ntmps37
    go_wp2_with ((with_reducible refine store_c rfl _ _ rfl K2.out ?_ zero ?_ ?_); rfl; rfl; intro w7 hM hG)
    try simp only [Exit.inBlock, Exit.then]
    refine bodyPost_ret (res_vb3 Try.results37 rfl (show VB w7 w.heap.size 25 (cvx zero) from hM) Try.underlying25 cvx_info) rfl ?_
    exact ⟨by rw [HT.out]; rfl, HB.out.grown hG HB.out.size (fun k hk => by injection hk with hk; omega)⟩
  · have m2 : ¬ (n : Int) < 2 := by omega
    have HIs := Lib.hid (fun w h => is_hand l p n cp w HN.out hl h)
    cases hh : handB l
    · have HT := Lib.hid (smR_no (l := l) (.inl hh))
      rw [hh] at HIs
      clear hh
      go_enter Try.func37, Try.ntmps37
      go_wp2_with fail
      refine (HIs.out _ (HR0.out.below HB.out)).mono ?_
      rintro e w1 ⟨rfl, b⟩
      have Sw1 := Lib.hid b.size
      have HB := Lib.hid (chain0 (w := w) (by repeat (first | with_reducible exact Below.refl _ _ | with_reducible exact HB.out | with_reducible apply Below.drew | with_reducible apply bdN | with_reducible refine Below.alloc ?_ (by first | exact Nat.le_refl _ | with_reducible exact HB.out.size | omega | (simp; done) | (simp; omega) | (have := HB.out.size; simp at *; omega)) _ | with_reducible refine Below.setCell ?_ (by first | exact Nat.le_refl _ | with_reducible exact HB.out.size | omega | (simp; done) | (simp; omega) | (have := HB.out.size; simp at *; omega)) _)) b)
      have K2 := Lib.hid (Box.below (by repeat (first | with_reducible exact K2.out | with_reducible apply Box.drewN | with_reducible apply Box.drew | with_reducible apply Box.alloc)) b)
      clear b
      go_wp2_with ((with_reducible refine store_c rfl _ _ rfl K2.out ?_ zero ?_ ?_); rfl; rfl; intro w7 hM hG)
      try simp only [Exit.inBlock, Exit.then]
      refine bodyPost_ret (res_vb3 Try.results37 rfl (show VB w7 w.heap.size 25 (cvx zero) from hM) Try.underlying25 cvx_info) rfl ?_
      exact ⟨by rw [HT.out]; rfl, HB.out.grown hG HB.out.size (fun k hk => by injection hk with hk; omega)⟩
    · have HH := Lib.hid (handB_true.1 hh)
      have HT := Lib.hid (show smR l = ((best l 81).1, (best l 81).2, true) by unfold smR; rw [if_pos ⟨hh, by rw [HN.out]; exact h2⟩])
      have HMp := Lib.hid (fun w h => most_pairs l p n cp w HN.out (by have := HH.out.1; have := HN.out; omega) h HH.out.2.1 HH.out.2.2)
      rw [hh] at HIs
      generalize best l 81 = bb at *
      obtain ⟨bc, bt⟩ := bb
      dsimp only at HMp HT
      clear hh
      go_enter Try.func37, Try.ntmps37
      go_wp2_with fail
      refine (HIs.out _ (HR0.out.below HB.out)).mono ?_
      rintro e w1 ⟨rfl, b⟩
      have Sw1 := Lib.hid b.size
      have HB := Lib.hid (chain0 (w := w) (by repeat (first | with_reducible exact Below.refl _ _ | with_reducible exact HB.out | with_reducible apply Below.drew | with_reducible apply bdN | with_reducible refine Below.alloc ?_ (by first | exact Nat.le_refl _ | with_reducible exact HB.out.size | omega | (simp; done) | (simp; omega) | (have := HB.out.size; simp at *; omega)) _ | with_reducible refine Below.setCell ?_ (by first | exact Nat.le_refl _ | with_reducible exact HB.out.size | omega | (simp; done) | (simp; omega) | (have := HB.out.size; simp at *; omega)) _)) b)
      have K2 := Lib.hid (Box.below (by repeat (first | with_reducible exact K2.out | with_reducible apply Box.drewN | with_reducible apply Box.drew | with_reducible apply Box.alloc)) b)
      clear b
      go_wp2_with fail
      refine (HMp.out _ (HR0.out.below HB.out)).mono ?_
      rintro e w2 ⟨rfl, b⟩
      have Sw2 := Lib.hid b.size
      have HB := Lib.hid (chain0 (w := w) (by repeat (first | with_reducible exact Below.refl _ _ | with_reducible exact HB.out | with_reducible apply Below.drew | with_reducible apply bdN | with_reducible refine Below.alloc ?_ (by first | exact Nat.le_refl _ | with_reducible exact HB.out.size | omega | (simp; done) | (simp; omega) | (have := HB.out.size; simp at *; omega)) _ | with_reducible refine Below.setCell ?_ (by first | exact Nat.le_refl _ | with_reducible exact HB.out.size | omega | (simp; done) | (simp; omega) | (have := HB.out.size; simp at *; omega)) _)) b)
      have K2 := Lib.hid (Box.below (by repeat (first | with_reducible exact K2.out | with_reducible apply Box.drewN | with_reducible apply Box.drew | with_reducible apply Box.alloc)) b)
      clear b
      have HKz := Lib.hid K2.out.lt
      go_upto_region 4 with ((with_reducible refine store_c rfl _ _ rfl (Box.newAt (x := zero) rfl rfl) ?_ bc ?_ ?_); rfl; rfl; intro w3 hM hG)
      have b : Below w2.heap.size w2 w3 := Below.grown ((Below.refl _ _).alloc (Nat.le_refl _) _) hG (by simp) (fun k hk => by injection hk with hk; omega)
      have Sw3 := Lib.hid b.size
      have HB := Lib.hid (chain0 (w := w) (by repeat (first | with_reducible exact Below.refl _ _ | with_reducible exact HB.out | with_reducible apply Below.drew | with_reducible apply bdN | with_reducible refine Below.alloc ?_ (by first | exact Nat.le_refl _ | with_reducible exact HB.out.size | omega | (simp; done) | (simp; omega) | (have := HB.out.size; simp at *; omega)) _ | with_reducible refine Below.setCell ?_ (by first | exact Nat.le_refl _ | with_reducible exact HB.out.size | omega | (simp; done) | (simp; omega) | (have := HB.out.size; simp at *; omega)) _)) b)
      have K2 := Lib.hid (Box.below (by repeat (first | with_reducible exact K2.out | with_reducible apply Box.drewN | with_reducible apply Box.drew | with_reducible apply Box.alloc)) b)
      clear b
      have K5 := Lib.hid hM
      clear hM hG
      go_wp2_with (first | ((with_reducible refine take_c rfl _ rfl K5.out ?_ ?_); rfl) | ((with_reducible refine store_c rfl _ _ rfl K2.out ?_ bc ?_ ?_); rfl; rfl; intro w7 hM hG))
      try simp only [Exit.inBlock, Exit.then]
      refine bodyPost_ret (res_vb3 Try.results37 rfl (show VB w7 w.heap.size 25 (cvx bc) from hM) Try.underlying25 cvx_info) rfl ?_
      exact ⟨by rw [HT.out]; rfl, HB.out.grown hG HB.out.size (fun k hk => by injection hk with hk; omega)⟩
end Go.Proofs.Ytjmlefcmhjodeaa.others
