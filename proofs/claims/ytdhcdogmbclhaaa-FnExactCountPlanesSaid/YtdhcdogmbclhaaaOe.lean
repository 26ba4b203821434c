/- SplitBy: the model's, and the two functions whole. -/
import Derived.Test.YtdhcdogmbclhaaaOd
import Derived.Test.YtdhcdogmbclhaaaVy
namespace Go.Proofs.Ytdhcdogmbclhaaa.planes
open Go.RowKit
open cards reg
set_option linter.unusedVariables false

set_option maxRecDepth 100000 in
set_option maxHeartbeats 4000000 in
theorem l6_split (l : List Cd) (y : Cd) (p : Option Addr) (n cp : Nat) (w : World) (hn : l.length = n) (hl : n ≤ 1000) (hr : Rd w p (flat l)) (hok : l.all Cd.ok = true) (hy : y.ok = true) :
    Calls Try.prog 68 #[.slice p n cp, y.val] w fun e w' => e = .returned (.agg (q3 (splitF y l))) ∧ Below w.heap.size w w' := by
  have HN := Lib.hid hn
  have HR0 := Lib.hid hr
  have HK := Lib.hid hok
  have HV := Lib.hid (fun x hx w => l6_value x y w hx hy)
  have K0 : Hid (Box ((w.alloc y.obj).alloc (.cells (q3 z3) 46)) w.heap.size y) := Lib.hid ((Box.newAt rfl rfl).alloc _)
  have K1 : Hid (VB ((w.alloc y.obj).alloc (.cells (q3 z3) 46)) (w.heap.size + 1) 46 (q3 z3)) := Lib.hid (VB.newAt (by simp) rfl)
  have HB : Hid (Below w.heap.size w ((w.alloc y.obj).alloc (.cells (q3 z3) 46))) := Lib.hid (((Below.refl _ _).alloc (Nat.le_refl _) _).alloc (by simp) _)
  clear hn hr hok hy
  go_enter Try.func68, Try.ntmps68
  go_upto_region 1 with fail
  generalize (w.alloc y.obj).alloc (.cells (q3 z3) 46) = W at *
  have K2 : Hid (VB (W.alloc (.cells (q3 z3) 46)) W.heap.size 46 (q3 z3)) := Lib.hid (VB.newAt rfl rfl)
  have k1z := K1.out.lt
  have K0x := Lib.hid (K0.out.alloc (.cells (q3 z3) 46))
  have K1x := Lib.hid (K1.out.alloc (.cells (q3 z3) 46))
  have HBx := Lib.hid (HB.out.alloc HB.out.size (.cells (q3 z3) 46))
  have hW := HB.out.size
  clear K0 K1 HB
  obtain ⟨g, hg⟩ : ∃ g, W.heap.size = g := ⟨_, rfl⟩
  have HG := Lib.hid hg
  rw [hg] at K2 k1z
  clear hg
  go_upto_region 2 with fail
  have K0 := K0x
  have K1 := K1x
  have HB := HBx
  clear K0x K1x HBx
  generalize W.alloc (.cells (q3 z3) 46) = W2 at *
  try rw [HG.out]
  go_wp2_with fail
  go_loopw [6] (fun i wr => ∃ k : Nat, k ≤ n ∧ i = .int .i64 k ∧ Hid (VB wr g 46 (q3 (splitF y (l.take k)))) ∧ Hid (Below w.heap.size w wr) ∧ Hid (Box wr w.heap.size y) ∧ Hid (VB wr (w.heap.size + 1) 46 (q3 z3))) (fun i _ => n - (intOf i).toNat)
  case atStart => exact ⟨0, Nat.zero_le _, rfl, K2, HB, K0, K1⟩
  case round =>
    clear K0 K1 K2 HB
    obtain ⟨k, hk, rfl, K2, HB, K0, K1⟩ := hrel
    by_cases hlt : k < n
    · have HR := Lib.hid (HR0.out.below HB.out)
      obtain ⟨b, o, x, rfl, hb, hx, c0, c1, c2, c3⟩ := HR.out.card (k := k) (by rw [HN.out]; exact hlt)
      have HX := Lib.hid (ok_at HK.out hx)
      have HE := Lib.hid (split_snoc (y := y) hx)
      have hbd := splitF_bd y l k (valN x y)
      have HVx := HV.out x HX.out
      rw [valN_val] at HVx
      have hN3 := valN_lt x y
      obtain ⟨f, hf⟩ : ∃ f, splitF y (l.take k) = f := ⟨_, rfl⟩
      obtain ⟨N, hN⟩ : ∃ N, valN x y = N := ⟨_, rfl⟩
      rw [hf] at hbd K2 HE
      rw [hN] at HVx hN3 HE hbd
      clear hf hN
      have HVy := Lib.hid HVx
      clear HVx
      obtain ⟨v, hv⟩ : ∃ v, f N = v := ⟨_, rfl⟩
      have Hv := Lib.hid hv
      have m0 : (0 : Int) ≤ (k : Int) := by omega
      have m1 : (k : Int) < (n : Int) := by omega
      rw [hv] at hbd
      clear hx hv
      have hgz := K2.out.lt
      have k0z := K0.out.lt
      have hbl : b < w.heap.size := by
        obtain ⟨b', o', x', e', hb', _⟩ := HR0.out.card (k := k) (by rw [HN.out]; exact hlt)
        injection e' with e'; injection e' with e1 e2; omega
      have hc := K2.out.at_ (q3_at f hN3)
      rw [Hv.out] at hc
      go_upto_region 5 with fail
      refine region_storeG g [(true, 0), (true, 1), (true, 2), (true, 3), (true, 4), (false, 5), (true, 6), (false, 7), (true, 8), (true, 9)] 10 _ (by kernel_rfl) rfl (by kernel_rfl) rfl rfl rfl ?_
      refine chain_pure 14 (v := .slice (some ⟨b, o, none⟩) n cp) rfl rfl rfl (fun w => by kernel_rfl) ?_
      refine chain_pure 15 (v := .int .i64 k) rfl rfl rfl (fun w => by kernel_rfl) ?_
      refine chain_pure 16 (v := .pointer (some ⟨b, o + k * 4, none⟩)) rfl rfl rfl (exec_indexS (cp := cp) hlt rfl (by kernel_rfl) (by kernel_rfl)) ?_
      refine chain_card 17 rfl rfl rfl _ rfl (by kernel_rfl) x (fun w' h => ⟨GS.cell h c0 hb (by omega), GS.cell h c1 hb (by omega), GS.cell h c2 hb (by omega), GS.cell h c3 hb (by omega)⟩) ?_
      refine chain_card 18 (g := w.heap.size) (off := 0) rfl rfl rfl _ rfl (by kernel_rfl) y (fun w' h => (GS.box h K0.out (by omega)).cell) ?_
      refine chain_callG 19 rfl rfl rfl (fun w => by kernel_rfl) (fun w h => HVy.out w) ?_
      refine chain_pure 20 (v := .pointer (some ⟨g, N, none⟩)) rfl rfl rfl (exec_index3 hN3 rfl (by kernel_rfl) (by kernel_rfl)) ?_
      refine chain_loadI 21 rfl rfl rfl rfl (by kernel_rfl) (fun w' h => (Below.cell h (p := ⟨g, N, none⟩) hgz).trans hc) (fun w' h => BI.gs g h) (fun w' h => h.size) (fun w' h => Below.alloc h h.size _) ?_
      refine chain_pure 22 (v := .int .i64 (v + 1)) rfl rfl rfl (exec_add1 (by omega) rfl (by kernel_rfl)) ?_
      refine chain_pure 23 (v := .pointer (some ⟨g, N, none⟩)) rfl rfl rfl (exec_index3 hN3 rfl (by kernel_rfl) (by kernel_rfl)) ?_
      intro w4 b4
      have hz4 := K2.out.below b4
      refine ⟨w4.setCell ⟨g, N, none⟩ (.int .i64 (v + 1)), exec_storeI rfl (by kernel_rfl) (by kernel_rfl) ((hz4.at_ (q3_at f hN3)).trans (by rw [Hv.out])) (hz4.frozen _), (BI.gs g b4).set_ _ _, ?_⟩
      simp only [Act.put, List.setIfInBounds_toArray, List.set_cons_zero, List.set_cons_succ]
      have hS := Lib.hid (hz4.set_ (cs' := q3 (up3 f N)) (v := .int .i64 (v + 1)) (by rw [← Hv.out]; exact q3_set f hN3))
      rw [← HE.out] at hS
      have HB := Lib.hid ((chain0 HB.out b4).setCell (p := ⟨g, N, none⟩) (by simp only; omega) (.int .i64 (v + 1)))
      have K0 := Lib.hid ((K0.out.below b4).far (p := ⟨g, N, none⟩) (by simp only; omega) (.int .i64 (v + 1)))
      have K1 := Lib.hid ((K1.out.below b4).far (p := ⟨g, N, none⟩) (by simp only; omega) (.int .i64 (v + 1)))
      clear hc hz4 b4 c0 c1 c2 c3
      generalize w4.setCell ⟨g, N, none⟩ (.int .i64 (v + 1)) = w5 at *
      go_wp2_with fail
      go_roundw
      case rel => exact ⟨k + 1, by omega, by go_num, hS, HB, K0, K1⟩
      case measure => simp [intOf]; omega
    · obtain rfl : k = n := by omega
      rw [show l.take k = l by rw [← HN.out, List.take_length]] at K2
      go_wp2_with (first | ((with_reducible refine take_q3 rfl _ rfl K2.out ?_ ?_); rfl) | ((with_reducible refine store_q3 rfl _ _ rfl K1.out ?_ (splitF y l) ?_ ?_); rfl; rfl; intro w7 hM hG))
      try simp only [Exit.inBlock, Exit.then]
      refine bodyPost_ret (res_q3 Try.results68 rfl hM) rfl ?_
      exact ⟨rfl, HB.out.grown hG HB.out.size (fun k hk => by injection hk with hk; omega)⟩

noncomputable def sbR (l : List Cd) (y : Cd) : (Nat → Int) × Bool := if handB l = true ∧ wtB y = true then (splitF y l, true) else (z3, false)

set_option maxRecDepth 100000 in
set_option maxHeartbeats 4000000 in
theorem impl_sb (l : List Cd) (y : Cd) (p : Option Addr) (n cp : Nat) (w : World) (hn : l.length = n) (hl : n ≤ 1000000000) (hr : Rd w p (flat l)) :
    Calls Try.prog 41 #[.slice p n cp, y.val] w fun e w' => e = .returned (.tuple #[.agg (q3 (sbR l y).1), .bool (sbR l y).2]) ∧ Below w.heap.size w w' := by
  have HI := Lib.hid (fun w hr => is_hand l p n cp w hn hl hr)
  have HJ := Lib.hid (fun w => is_weight y w)
  have K0 : Hid (Box ((w.alloc y.obj).alloc (.cells (q3 z3) 46)) w.heap.size y) := Lib.hid ((Box.newAt rfl rfl).alloc _)
  have K1 : Hid (VB ((w.alloc y.obj).alloc (.cells (q3 z3) 46)) (w.heap.size + 1) 46 (q3 z3)) := Lib.hid (VB.newAt (by simp) rfl)
  have HB : Hid (Below w.heap.size w ((w.alloc y.obj).alloc (.cells (q3 z3) 46))) := Lib.hid (((Below.refl _ _).alloc (Nat.le_refl _) _).alloc (by simp) _)
  have HR := Lib.hid hr
  have HN := Lib.hid hn
  clear hr hn
  cases hh : handB l
  · have HT := Lib.hid (show sbR l y = (z3, false) by unfold sbR; rw [if_neg (by simp [hh])])
    rw [hh] at HI
    clear hh
    go_enter Try.func41, Try.ntmps41
    go_upto_region 1 with fail
    have HR := Lib.hid (Rd.below HR.out HB.out)
    generalize (w.alloc y.obj).alloc (.cells (q3 z3) 46) = W at *
    obtain ⟨k0a, k0b, k0c, k0d⟩ := K0.out.cell
    have k0z := K0.out.lt
    go_wp2_with fail
    refine ((HI.out _ HR.out)).mono ?_
    rintro e w1 ⟨rfl, b⟩
    have Sw1 := Lib.hid b.size
    have HB := Lib.hid (chain0 (w := w) (by repeat (first | with_reducible exact Below.refl _ _ | with_reducible exact HB.out | with_reducible apply Below.drew | with_reducible apply bdN | with_reducible refine Below.alloc ?_ (by first | exact Nat.le_refl _ | with_reducible exact HB.out.size | omega | (simp; done) | (simp; omega) | (have := HB.out.size; simp at *; omega)) _ | with_reducible refine Below.setCell ?_ (by first | exact Nat.le_refl _ | with_reducible exact HB.out.size | omega | (simp; done) | (simp; omega) | (have := HB.out.size; simp at *; omega)) _)) b)
    have HR := Lib.hid (Rd.below (by repeat (first | with_reducible exact HR.out | with_reducible apply Rd.drewN | with_reducible apply Rd.drew | with_reducible apply Rd.alloc)) b)
    have K1 := Lib.hid (VB.below (by repeat (first | with_reducible exact K1.out | with_reducible apply VB.drewN | with_reducible apply VB.drew | with_reducible apply VB.alloc)) b)
    have K0 : Hid (Box _ (w.heap.size) (y)) := Lib.hid (Box.below (by repeat (first | with_reducible exact K0.out | with_reducible apply Box.drewN | with_reducible apply Box.drew | (with_reducible refine Box.newAt ?_ ?_ <;> first | (simp; done) | rfl) | with_reducible apply Box.alloc)) b)
    try clear k0a k0b k0c k0d k0z
    have k0z := K0.out.lt
    obtain ⟨k0a, k0b, k0c, k0d⟩ := K0.out.cell
    clear b
    go_wp2_with ((with_reducible refine store_q3 rfl _ _ rfl K1.out ?_ z3 ?_ ?_); rfl; rfl; intro w7 hM hG)
    try simp only [Exit.inBlock, Exit.then]
    refine bodyPost_ret (res_q32 Try.results41 rfl hM) rfl ?_
    exact ⟨by rw [HT.out]; rfl, HB.out.grown hG HB.out.size (fun k hk => by injection hk with hk; omega)⟩
  · rw [hh] at HI
    cases hy : wtB y
    · have HT := Lib.hid (show sbR l y = (z3, false) by unfold sbR; rw [if_neg (by simp [hy])])
      rw [hy] at HJ
      clear hh hy
      go_enter Try.func41, Try.ntmps41
      go_upto_region 1 with fail
      have HR := Lib.hid (Rd.below HR.out HB.out)
      generalize (w.alloc y.obj).alloc (.cells (q3 z3) 46) = W at *
      obtain ⟨k0a, k0b, k0c, k0d⟩ := K0.out.cell
      have k0z := K0.out.lt
      go_wp2_with fail
      refine ((HI.out _ HR.out)).mono ?_
      rintro e w1 ⟨rfl, b⟩
      have Sw1 := Lib.hid b.size
      have HB := Lib.hid (chain0 (w := w) (by repeat (first | with_reducible exact Below.refl _ _ | with_reducible exact HB.out | with_reducible apply Below.drew | with_reducible apply bdN | with_reducible refine Below.alloc ?_ (by first | exact Nat.le_refl _ | with_reducible exact HB.out.size | omega | (simp; done) | (simp; omega) | (have := HB.out.size; simp at *; omega)) _ | with_reducible refine Below.setCell ?_ (by first | exact Nat.le_refl _ | with_reducible exact HB.out.size | omega | (simp; done) | (simp; omega) | (have := HB.out.size; simp at *; omega)) _)) b)
      have HR := Lib.hid (Rd.below (by repeat (first | with_reducible exact HR.out | with_reducible apply Rd.drewN | with_reducible apply Rd.drew | with_reducible apply Rd.alloc)) b)
      have K1 := Lib.hid (VB.below (by repeat (first | with_reducible exact K1.out | with_reducible apply VB.drewN | with_reducible apply VB.drew | with_reducible apply VB.alloc)) b)
      have K0 : Hid (Box _ (w.heap.size) (y)) := Lib.hid (Box.below (by repeat (first | with_reducible exact K0.out | with_reducible apply Box.drewN | with_reducible apply Box.drew | (with_reducible refine Box.newAt ?_ ?_ <;> first | (simp; done) | rfl) | with_reducible apply Box.alloc)) b)
      try clear k0a k0b k0c k0d k0z
      have k0z := K0.out.lt
      obtain ⟨k0a, k0b, k0c, k0d⟩ := K0.out.cell
      clear b
      go_wp2_with fail
      refine ((HJ.out _)).mono ?_
      rintro e w2 ⟨rfl, b⟩
      have Sw2 := Lib.hid b.size
      have HB := Lib.hid (chain0 (w := w) (by repeat (first | with_reducible exact Below.refl _ _ | with_reducible exact HB.out | with_reducible apply Below.drew | with_reducible apply bdN | with_reducible refine Below.alloc ?_ (by first | exact Nat.le_refl _ | with_reducible exact HB.out.size | omega | (simp; done) | (simp; omega) | (have := HB.out.size; simp at *; omega)) _ | with_reducible refine Below.setCell ?_ (by first | exact Nat.le_refl _ | with_reducible exact HB.out.size | omega | (simp; done) | (simp; omega) | (have := HB.out.size; simp at *; omega)) _)) b)
      have HR := Lib.hid (Rd.below (by repeat (first | with_reducible exact HR.out | with_reducible apply Rd.drewN | with_reducible apply Rd.drew | with_reducible apply Rd.alloc)) b)
      have K1 := Lib.hid (VB.below (by repeat (first | with_reducible exact K1.out | with_reducible apply VB.drewN | with_reducible apply VB.drew | with_reducible apply VB.alloc)) b)
      have K0 : Hid (Box _ (w.heap.size) (y)) := Lib.hid (Box.below (by repeat (first | with_reducible exact K0.out | with_reducible apply Box.drewN | with_reducible apply Box.drew | (with_reducible refine Box.newAt ?_ ?_ <;> first | (simp; done) | rfl) | with_reducible apply Box.alloc)) b)
      try clear k0a k0b k0c k0d k0z
      have k0z := K0.out.lt
      obtain ⟨k0a, k0b, k0c, k0d⟩ := K0.out.cell
      clear b
      go_wp2_with ((with_reducible refine store_q3 rfl _ _ rfl K1.out ?_ z3 ?_ ?_); rfl; rfl; intro w7 hM hG)
      try simp only [Exit.inBlock, Exit.then]
      refine bodyPost_ret (res_q32 Try.results41 rfl hM) rfl ?_
      exact ⟨by rw [HT.out]; rfl, HB.out.grown hG HB.out.size (fun k hk => by injection hk with hk; omega)⟩
    · have HT := Lib.hid (show sbR l y = (splitF y l, true) by unfold sbR; rw [if_pos ⟨hh, hy⟩])
      have hH := handB_true.1 hh
      have HS := Lib.hid (fun w hr => split_by l y p n cp w HN.out (by have := HN.out; have := hH.1; omega) hr hH.2.1 (wtB_ok hy))
      rw [hy] at HJ
      clear hh hy hH
      go_enter Try.func41, Try.ntmps41
      go_upto_region 1 with fail
      have HR := Lib.hid (Rd.below HR.out HB.out)
      generalize (w.alloc y.obj).alloc (.cells (q3 z3) 46) = W at *
      obtain ⟨k0a, k0b, k0c, k0d⟩ := K0.out.cell
      have k0z := K0.out.lt
      go_wp2_with fail
      refine ((HI.out _ HR.out)).mono ?_
      rintro e w1 ⟨rfl, b⟩
      have Sw1 := Lib.hid b.size
      have HB := Lib.hid (chain0 (w := w) (by repeat (first | with_reducible exact Below.refl _ _ | with_reducible exact HB.out | with_reducible apply Below.drew | with_reducible apply bdN | with_reducible refine Below.alloc ?_ (by first | exact Nat.le_refl _ | with_reducible exact HB.out.size | omega | (simp; done) | (simp; omega) | (have := HB.out.size; simp at *; omega)) _ | with_reducible refine Below.setCell ?_ (by first | exact Nat.le_refl _ | with_reducible exact HB.out.size | omega | (simp; done) | (simp; omega) | (have := HB.out.size; simp at *; omega)) _)) b)
      have HR := Lib.hid (Rd.below (by repeat (first | with_reducible exact HR.out | with_reducible apply Rd.drewN | with_reducible apply Rd.drew | with_reducible apply Rd.alloc)) b)
      have K1 := Lib.hid (VB.below (by repeat (first | with_reducible exact K1.out | with_reducible apply VB.drewN | with_reducible apply VB.drew | with_reducible apply VB.alloc)) b)
      have K0 : Hid (Box _ (w.heap.size) (y)) := Lib.hid (Box.below (by repeat (first | with_reducible exact K0.out | with_reducible apply Box.drewN | with_reducible apply Box.drew | (with_reducible refine Box.newAt ?_ ?_ <;> first | (simp; done) | rfl) | with_reducible apply Box.alloc)) b)
      try clear k0a k0b k0c k0d k0z
      have k0z := K0.out.lt
      obtain ⟨k0a, k0b, k0c, k0d⟩ := K0.out.cell
      clear b
      go_wp2_with fail
      refine ((HJ.out _)).mono ?_
      rintro e w2 ⟨rfl, b⟩
      have Sw2 := Lib.hid b.size
      have HB := Lib.hid (chain0 (w := w) (by repeat (first | with_reducible exact Below.refl _ _ | with_reducible exact HB.out | with_reducible apply Below.drew | with_reducible apply bdN | with_reducible refine Below.alloc ?_ (by first | exact Nat.le_refl _ | with_reducible exact HB.out.size | omega | (simp; done) | (simp; omega) | (have := HB.out.size; simp at *; omega)) _ | with_reducible refine Below.setCell ?_ (by first | exact Nat.le_refl _ | with_reducible exact HB.out.size | omega | (simp; done) | (simp; omega) | (have := HB.out.size; simp at *; omega)) _)) b)
      have HR := Lib.hid (Rd.below (by repeat (first | with_reducible exact HR.out | with_reducible apply Rd.drewN | with_reducible apply Rd.drew | with_reducible apply Rd.alloc)) b)
      have K1 := Lib.hid (VB.below (by repeat (first | with_reducible exact K1.out | with_reducible apply VB.drewN | with_reducible apply VB.drew | with_reducible apply VB.alloc)) b)
      have K0 : Hid (Box _ (w.heap.size) (y)) := Lib.hid (Box.below (by repeat (first | with_reducible exact K0.out | with_reducible apply Box.drewN | with_reducible apply Box.drew | (with_reducible refine Box.newAt ?_ ?_ <;> first | (simp; done) | rfl) | with_reducible apply Box.alloc)) b)
      try clear k0a k0b k0c k0d k0z
      have k0z := K0.out.lt
      obtain ⟨k0a, k0b, k0c, k0d⟩ := K0.out.cell
      clear b
      go_wp2_with fail
      refine ((HS.out _ HR.out)).mono ?_
      rintro e w3 ⟨rfl, b⟩
      have Sw3 := Lib.hid b.size
      have HB := Lib.hid (chain0 (w := w) (by repeat (first | with_reducible exact Below.refl _ _ | with_reducible exact HB.out | with_reducible apply Below.drew | with_reducible apply bdN | with_reducible refine Below.alloc ?_ (by first | exact Nat.le_refl _ | with_reducible exact HB.out.size | omega | (simp; done) | (simp; omega) | (have := HB.out.size; simp at *; omega)) _ | with_reducible refine Below.setCell ?_ (by first | exact Nat.le_refl _ | with_reducible exact HB.out.size | omega | (simp; done) | (simp; omega) | (have := HB.out.size; simp at *; omega)) _)) b)
      have HR := Lib.hid (Rd.below (by repeat (first | with_reducible exact HR.out | with_reducible apply Rd.drewN | with_reducible apply Rd.drew | with_reducible apply Rd.alloc)) b)
      have K1 := Lib.hid (VB.below (by repeat (first | with_reducible exact K1.out | with_reducible apply VB.drewN | with_reducible apply VB.drew | with_reducible apply VB.alloc)) b)
      have K0 : Hid (Box _ (w.heap.size) (y)) := Lib.hid (Box.below (by repeat (first | with_reducible exact K0.out | with_reducible apply Box.drewN | with_reducible apply Box.drew | (with_reducible refine Box.newAt ?_ ?_ <;> first | (simp; done) | rfl) | with_reducible apply Box.alloc)) b)
      try clear k0a k0b k0c k0d k0z
      have k0z := K0.out.lt
      obtain ⟨k0a, k0b, k0c, k0d⟩ := K0.out.cell
      clear b
      go_wp2_with ((with_reducible refine store_q3 rfl _ _ rfl K1.out ?_ (splitF y l) ?_ ?_); rfl; rfl; intro w7 hM hG)
      try simp only [Exit.inBlock, Exit.then]
      refine bodyPost_ret (res_q32 Try.results41 rfl hM) rfl ?_
      exact ⟨by rw [HT.out]; rfl, HB.out.grown hG HB.out.size (fun k hk => by injection hk with hk; omega)⟩

set_option maxRecDepth 100000 in
set_option maxHeartbeats 4000000 in
theorem spec_sb (l : List Cd) (y : Cd) (p : Option Addr) (n cp : Nat) (w : World) (hn : l.length = n) (hl : n ≤ 1000000000) (hr : Rd w p (flat l)) :
    Calls Try.prog 40 #[.slice p n cp, y.val] w fun e w' => e = .returned (.tuple #[.agg (q3 (sbR l y).1), .bool (sbR l y).2]) ∧ Below w.heap.size w w' := by
  have HI := Lib.hid (fun w hr => l2_hand l p n cp w hn hl hr)
  have HJ := Lib.hid (fun w => l6_weight y w)
  have K0 : Hid (Box ((w.alloc y.obj).alloc (.cells (q3 z3) 46)) w.heap.size y) := Lib.hid ((Box.newAt rfl rfl).alloc _)
  have K1 : Hid (VB ((w.alloc y.obj).alloc (.cells (q3 z3) 46)) (w.heap.size + 1) 46 (q3 z3)) := Lib.hid (VB.newAt (by simp) rfl)
  have HB : Hid (Below w.heap.size w ((w.alloc y.obj).alloc (.cells (q3 z3) 46))) := Lib.hid (((Below.refl _ _).alloc (Nat.le_refl _) _).alloc (by simp) _)
  have HR := Lib.hid hr
  have HN := Lib.hid hn
  clear hr hn
  cases hh : handB l
  · have HT := Lib.hid (show sbR l y = (z3, false) by unfold sbR; rw [if_neg (by simp [hh])])
    rw [hh] at HI
    clear hh
    go_enter Try.func40, Try.ntmps40
    go_upto_region 1 with fail
    have HR := Lib.hid (Rd.below HR.out HB.out)
    generalize (w.alloc y.obj).alloc (.cells (q3 z3) 46) = W at *
    obtain ⟨k0a, k0b, k0c, k0d⟩ := K0.out.cell
    have k0z := K0.out.lt
    go_wp2_with fail
    refine ((HI.out _ HR.out)).mono ?_
    rintro e w1 ⟨rfl, b⟩
    have Sw1 := Lib.hid b.size
    have HB := Lib.hid (chain0 (w := w) (by repeat (first | with_reducible exact Below.refl _ _ | with_reducible exact HB.out | with_reducible apply Below.drew | with_reducible apply bdN | with_reducible refine Below.alloc ?_ (by first | exact Nat.le_refl _ | with_reducible exact HB.out.size | omega | (simp; done) | (simp; omega) | (have := HB.out.size; simp at *; omega)) _ | with_reducible refine Below.setCell ?_ (by first | exact Nat.le_refl _ | with_reducible exact HB.out.size | omega | (simp; done) | (simp; omega) | (have := HB.out.size; simp at *; omega)) _)) b)
    have HR := Lib.hid (Rd.below (by repeat (first | with_reducible exact HR.out | with_reducible apply Rd.drewN | with_reducible apply Rd.drew | with_reducible apply Rd.alloc)) b)
    have K1 := Lib.hid (VB.below (by repeat (first | with_reducible exact K1.out | with_reducible apply VB.drewN | with_reducible apply VB.drew | with_reducible apply VB.alloc)) b)
    have K0 : Hid (Box _ (w.heap.size) (y)) := Lib.hid (Box.below (by repeat (first | with_reducible exact K0.out | with_reducible apply Box.drewN | with_reducible apply Box.drew | (with_reducible refine Box.newAt ?_ ?_ <;> first | (simp; done) | rfl) | with_reducible apply Box.alloc)) b)
    try clear k0a k0b k0c k0d k0z
    have k0z := K0.out.lt
    obtain ⟨k0a, k0b, k0c, k0d⟩ := K0.out.cell
    clear b
    go_wp2_with ((with_reducible refine store_q3 rfl _ _ rfl K1.out ?_ z3 ?_ ?_); rfl; rfl; intro w7 hM hG)
    try simp only [Exit.inBlock, Exit.then]
    refine bodyPost_ret (res_q32 Try.results40 rfl hM) rfl ?_
    exact ⟨by rw [HT.out]; rfl, HB.out.grown hG HB.out.size (fun k hk => by injection hk with hk; omega)⟩
  · rw [hh] at HI
    cases hy : wtB y
    · have HT := Lib.hid (show sbR l y = (z3, false) by unfold sbR; rw [if_neg (by simp [hy])])
      rw [hy] at HJ
      clear hh hy
      go_enter Try.func40, Try.ntmps40
      go_upto_region 1 with fail
      have HR := Lib.hid (Rd.below HR.out HB.out)
      generalize (w.alloc y.obj).alloc (.cells (q3 z3) 46) = W at *
      obtain ⟨k0a, k0b, k0c, k0d⟩ := K0.out.cell
      have k0z := K0.out.lt
      go_wp2_with fail
      refine ((HI.out _ HR.out)).mono ?_
      rintro e w1 ⟨rfl, b⟩
      have Sw1 := Lib.hid b.size
      have HB := Lib.hid (chain0 (w := w) (by repeat (first | with_reducible exact Below.refl _ _ | with_reducible exact HB.out | with_reducible apply Below.drew | with_reducible apply bdN | with_reducible refine Below.alloc ?_ (by first | exact Nat.le_refl _ | with_reducible exact HB.out.size | omega | (simp; done) | (simp; omega) | (have := HB.out.size; simp at *; omega)) _ | with_reducible refine Below.setCell ?_ (by first | exact Nat.le_refl _ | with_reducible exact HB.out.size | omega | (simp; done) | (simp; omega) | (have := HB.out.size; simp at *; omega)) _)) b)
      have HR := Lib.hid (Rd.below (by repeat (first | with_reducible exact HR.out | with_reducible apply Rd.drewN | with_reducible apply Rd.drew | with_reducible apply Rd.alloc)) b)
      have K1 := Lib.hid (VB.below (by repeat (first | with_reducible exact K1.out | with_reducible apply VB.drewN | with_reducible apply VB.drew | with_reducible apply VB.alloc)) b)
      have K0 : Hid (Box _ (w.heap.size) (y)) := Lib.hid (Box.below (by repeat (first | with_reducible exact K0.out | with_reducible apply Box.drewN | with_reducible apply Box.drew | (with_reducible refine Box.newAt ?_ ?_ <;> first | (simp; done) | rfl) | with_reducible apply Box.alloc)) b)
      try clear k0a k0b k0c k0d k0z
      have k0z := K0.out.lt
      obtain ⟨k0a, k0b, k0c, k0d⟩ := K0.out.cell
      clear b
      go_wp2_with fail
      refine ((HJ.out _)).mono ?_
      rintro e w2 ⟨rfl, b⟩
      have Sw2 := Lib.hid b.size
      have HB := Lib.hid (chain0 (w := w) (by repeat (first | with_reducible exact Below.refl _ _ | with_reducible exact HB.out | with_reducible apply Below.drew | with_reducible apply bdN | with_reducible refine Below.alloc ?_ (by first | exact Nat.le_refl _ | with_reducible exact HB.out.size | omega | (simp; done) | (simp; omega) | (have := HB.out.size; simp at *; omega)) _ | with_reducible refine Below.setCell ?_ (by first | exact Nat.le_refl _ | with_reducible exact HB.out.size | omega | (simp; done) | (simp; omega) | (have := HB.out.size; simp at *; omega)) _)) b)
      have HR := Lib.hid (Rd.below (by repeat (first | with_reducible exact HR.out | with_reducible apply Rd.drewN | with_reducible apply Rd.drew | with_reducible apply Rd.alloc)) b)
      have K1 := Lib.hid (VB.below (by repeat (first | with_reducible exact K1.out | with_reducible apply VB.drewN | with_reducible apply VB.drew | with_reducible apply VB.alloc)) b)
      have K0 : Hid (Box _ (w.heap.size) (y)) := Lib.hid (Box.below (by repeat (first | with_reducible exact K0.out | with_reducible apply Box.drewN | with_reducible apply Box.drew | (with_reducible refine Box.newAt ?_ ?_ <;> first | (simp; done) | rfl) | with_reducible apply Box.alloc)) b)
      try clear k0a k0b k0c k0d k0z
      have k0z := K0.out.lt
      obtain ⟨k0a, k0b, k0c, k0d⟩ := K0.out.cell
      clear b
      go_wp2_with ((with_reducible refine store_q3 rfl _ _ rfl K1.out ?_ z3 ?_ ?_); rfl; rfl; intro w7 hM hG)
      try simp only [Exit.inBlock, Exit.then]
      refine bodyPost_ret (res_q32 Try.results40 rfl hM) rfl ?_
      exact ⟨by rw [HT.out]; rfl, HB.out.grown hG HB.out.size (fun k hk => by injection hk with hk; omega)⟩
    · have HT := Lib.hid (show sbR l y = (splitF y l, true) by unfold sbR; rw [if_pos ⟨hh, hy⟩])
      have hH := handB_true.1 hh
      have HS := Lib.hid (fun w hr => l6_split l y p n cp w HN.out (by have := HN.out; have := hH.1; omega) hr hH.2.1 (wtB_ok hy))
      rw [hy] at HJ
      clear hh hy hH
      go_enter Try.func40, Try.ntmps40
      go_upto_region 1 with fail
      have HR := Lib.hid (Rd.below HR.out HB.out)
      generalize (w.alloc y.obj).alloc (.cells (q3 z3) 46) = W at *
      obtain ⟨k0a, k0b, k0c, k0d⟩ := K0.out.cell
      have k0z := K0.out.lt
      go_wp2_with fail
      refine ((HI.out _ HR.out)).mono ?_
      rintro e w1 ⟨rfl, b⟩
      have Sw1 := Lib.hid b.size
      have HB := Lib.hid (chain0 (w := w) (by repeat (first | with_reducible exact Below.refl _ _ | with_reducible exact HB.out | with_reducible apply Below.drew | with_reducible apply bdN | with_reducible refine Below.alloc ?_ (by first | exact Nat.le_refl _ | with_reducible exact HB.out.size | omega | (simp; done) | (simp; omega) | (have := HB.out.size; simp at *; omega)) _ | with_reducible refine Below.setCell ?_ (by first | exact Nat.le_refl _ | with_reducible exact HB.out.size | omega | (simp; done) | (simp; omega) | (have := HB.out.size; simp at *; omega)) _)) b)
      have HR := Lib.hid (Rd.below (by repeat (first | with_reducible exact HR.out | with_reducible apply Rd.drewN | with_reducible apply Rd.drew | with_reducible apply Rd.alloc)) b)
      have K1 := Lib.hid (VB.below (by repeat (first | with_reducible exact K1.out | with_reducible apply VB.drewN | with_reducible apply VB.drew | with_reducible apply VB.alloc)) b)
      have K0 : Hid (Box _ (w.heap.size) (y)) := Lib.hid (Box.below (by repeat (first | with_reducible exact K0.out | with_reducible apply Box.drewN | with_reducible apply Box.drew | (with_reducible refine Box.newAt ?_ ?_ <;> first | (simp; done) | rfl) | with_reducible apply Box.alloc)) b)
      try clear k0a k0b k0c k0d k0z
      have k0z := K0.out.lt
      obtain ⟨k0a, k0b, k0c, k0d⟩ := K0.out.cell
      clear b
      go_wp2_with fail
      refine ((HJ.out _)).mono ?_
      rintro e w2 ⟨rfl, b⟩
      have Sw2 := Lib.hid b.size
      have HB := Lib.hid (chain0 (w := w) (by repeat (first | with_reducible exact Below.refl _ _ | with_reducible exact HB.out | with_reducible apply Below.drew | with_reducible apply bdN | with_reducible refine Below.alloc ?_ (by first | exact Nat.le_refl _ | with_reducible exact HB.out.size | omega | (simp; done) | (simp; omega) | (have := HB.out.size; simp at *; omega)) _ | with_reducible refine Below.setCell ?_ (by first | exact Nat.le_refl _ | with_reducible exact HB.out.size | omega | (simp; done) | (simp; omega) | (have := HB.out.size; simp at *; omega)) _)) b)
      have HR := Lib.hid (Rd.below (by repeat (first | with_reducible exact HR.out | with_reducible apply Rd.drewN | with_reducible apply Rd.drew | with_reducible apply Rd.alloc)) b)
      have K1 := Lib.hid (VB.below (by repeat (first | with_reducible exact K1.out | with_reducible apply VB.drewN | with_reducible apply VB.drew | with_reducible apply VB.alloc)) b)
      have K0 : Hid (Box _ (w.heap.size) (y)) := Lib.hid (Box.below (by repeat (first | with_reducible exact K0.out | with_reducible apply Box.drewN | with_reducible apply Box.drew | (with_reducible refine Box.newAt ?_ ?_ <;> first | (simp; done) | rfl) | with_reducible apply Box.alloc)) b)
      try clear k0a k0b k0c k0d k0z
      have k0z := K0.out.lt
      obtain ⟨k0a, k0b, k0c, k0d⟩ := K0.out.cell
      clear b
      go_wp2_with fail
      refine ((HS.out _ HR.out)).mono ?_
      rintro e w3 ⟨rfl, b⟩
      have Sw3 := Lib.hid b.size
      have HB := Lib.hid (chain0 (w := w) (by repeat (first | with_reducible exact Below.refl _ _ | with_reducible exact HB.out | with_reducible apply Below.drew | with_reducible apply bdN | with_reducible refine Below.alloc ?_ (by first | exact Nat.le_refl _ | with_reducible exact HB.out.size | omega | (simp; done) | (simp; omega) | (have := HB.out.size; simp at *; omega)) _ | with_reducible refine Below.setCell ?_ (by first | exact Nat.le_refl _ | with_reducible exact HB.out.size | omega | (simp; done) | (simp; omega) | (have := HB.out.size; simp at *; omega)) _)) b)
      have HR := Lib.hid (Rd.below (by repeat (first | with_reducible exact HR.out | with_reducible apply Rd.drewN | with_reducible apply Rd.drew | with_reducible apply Rd.alloc)) b)
      have K1 := Lib.hid (VB.below (by repeat (first | with_reducible exact K1.out | with_reducible apply VB.drewN | with_reducible apply VB.drew | with_reducible apply VB.alloc)) b)
      have K0 : Hid (Box _ (w.heap.size) (y)) := Lib.hid (Box.below (by repeat (first | with_reducible exact K0.out | with_reducible apply Box.drewN | with_reducible apply Box.drew | (with_reducible refine Box.newAt ?_ ?_ <;> first | (simp; done) | rfl) | with_reducible apply Box.alloc)) b)
      try clear k0a k0b k0c k0d k0z
      have k0z := K0.out.lt
      obtain ⟨k0a, k0b, k0c, k0d⟩ := K0.out.cell
      clear b
      go_wp2_with ((with_reducible refine store_q3 rfl _ _ rfl K1.out ?_ (splitF y l) ?_ ?_); rfl; rfl; intro w7 hM hG)
      try simp only [Exit.inBlock, Exit.then]
      refine bodyPost_ret (res_q32 Try.results40 rfl hM) rfl ?_
      exact ⟨by rw [HT.out]; rfl, HB.out.grown hG HB.out.size (fun k hk => by injection hk with hk; omega)⟩
end Go.Proofs.Ytdhcdogmbclhaaa.planes
