/- Draws: a card that is often near another one. -/
import Derived.Test.YtkmkochganknmaaKc
namespace Go.Proofs.Ytkmkochganknmaa.draw
open Go.RowKit
open cards
set_option linter.unusedVariables false

set_option maxRecDepth 100000 in
set_option maxHeartbeats 4000000 in
theorem near_ (x : Cd) (g : Nat) (p : Option Addr) (n c : Nat) (l : List Int) (N : Nat) (w : World) (hN : N ≤ 700000) (hm : n ≤ 1000000000) (hx : wf4 x) (h : Cur w g p n c l N) :
    Calls Try.prog 24 #[.pointer (some ⟨g, 0, none⟩), x.val] w fun e w' => ∃ y : Cd, e = .returned y.val ∧ wf4 y ∧ Cur w' g p n c l (N + 12) ∧ w.grownBy w' (some g) := by
  have HF := Lib.hid h.far
  have HL := Lib.hid h.lt
  have HW := Lib.hid hx
  have HC := Lib.hid ((h.alloc x.obj).alloc zero.obj)
  have HG := Lib.hid ((World.grownBy_alloc w x.obj (some g)).trans (World.grownBy_alloc _ zero.obj (some g)))
  have K3 := Lib.hid ((Box.new w x).alloc zero.obj)
  have K4 : Hid (Box ((w.alloc x.obj).alloc zero.obj) (w.heap.size + 1) zero) := Lib.hid (Box.newAt (by simp) rfl)
  have H4 : Hid (g < w.heap.size + 1) := Lib.hid (Nat.lt_succ_of_lt HL.out)
  clear h hx
  go_enter Try.func24, Try.ntmps24
  go_wp2_with fail
  refine (one_ 2 g p n c l N _ (by omega) hm (by omega) (by omega) HC.out).mono ?_
  rintro e w1 ⟨o, rfl, C, G⟩
  have HC := Lib.hid C
  have HG := Lib.hid (HG.out.trans G)
  have K3 := Lib.hid (Box.by_ K3.out G (Nat.ne_of_lt HL.out))
  have K4 := Lib.hid (Box.by_ K4.out G (Nat.ne_of_lt H4.out))
  clear C G
  cases o
  · go_wp2_with fail
    refine (one_ 4 g p n c l (N + 2) _ (by omega) hm (by omega) (by omega) HC.out).mono ?_
    rintro e w2 ⟨o, rfl, C, G⟩
    have HC := Lib.hid C
    have HG := Lib.hid (HG.out.trans G)
    have K3 := Lib.hid (Box.by_ K3.out G (Nat.ne_of_lt HL.out))
    have K4 := Lib.hid (Box.by_ K4.out G (Nat.ne_of_lt H4.out))
    clear C G
    cases o
    · go_wp2_with fail
      refine (pick_ 4 g p n c l (N + 2 + 2) _ (by omega) hm (by omega) (by omega) HC.out).mono ?_
      rintro e w3 ⟨k, rfl, k0, k1, C, G⟩
      have HC := Lib.hid C
      have HG := Lib.hid (HG.out.trans G)
      have K3 := Lib.hid (Box.by_ K3.out G (Nat.ne_of_lt HL.out))
      have K4 := Lib.hid (Box.by_ K4.out G (Nat.ne_of_lt H4.out))
      clear C G
      obtain ⟨k, rfl⟩ : ∃ j : Nat, k = j := ⟨k.toNat, by omega⟩
      have hk : k < 4 := by omega
      go_wp2_with fail
      refine (pick_ 3 g p n c l (N + 2 + 2 + 2) _ (by omega) hm (by omega) (by omega) HC.out).mono ?_
      rintro e w5 ⟨a, rfl, a0, a1, C, G⟩
      have HC := Lib.hid C
      have HG := Lib.hid (HG.out.trans G)
      have K3 := Lib.hid (Box.by_ K3.out G (Nat.ne_of_lt HL.out))
      have K4 := Lib.hid (Box.by_ K4.out G (Nat.ne_of_lt H4.out))
      have HA : Hid ((Lit.int .i64 a).wf = true) := Lib.hid (wf_small a0 (by omega))
      clear C G
      have f3 := K3.out.frozen
      have z3 := K3.out.lt
      obtain ⟨v3, hv3⟩ : ∃ v, w5.cell? ⟨w.heap.size, k, none⟩ = some v := by
        obtain ⟨c0, c1, c2, c3⟩ := K3.out.cell
        rcases (show k = 0 ∨ k = 1 ∨ k = 2 ∨ k = 3 by omega) with rfl | rfl | rfl | rfl
        · exact ⟨_, c0⟩
        · exact ⟨_, c1⟩
        · exact ⟨_, c2⟩
        · exact ⟨_, c3⟩
      have k2 : (0 : Int) ≤ k := by omega
      have k3 : (k : Int) < 4 := by omega
      go_upto_region 5 with fail
      have hG := grown_set w5 w.heap.size k (.int .i64 a)
      have K3 := Lib.hid (Box.put K3.out a hk)
      have HC := Lib.hid (HC.out.by_ hG HL.out HF.out)
      have HG := Lib.hid (grown_fresh HG.out hG (Nat.le_refl _))
      have K4 := Lib.hid (Box.by_ K4.out hG (Nat.ne_of_lt (Nat.lt_succ_self _)))
      have HW := Lib.hid (wf_put HW.out HA.out k)
      clear hG f3 z3 hv3
      generalize w5.setCell ⟨w.heap.size, k, none⟩ (.int .i64 a) = w6 at *
      generalize putAt x a k = y at *
      obtain ⟨c0, c1, c2, c3⟩ := K3.out.cell
      obtain ⟨d0, d1, d2, d3⟩ := K4.out.cell
      have f2 := K4.out.frozen
      have z2 := K4.out.lt
      go_wp2_with fail
      have hG := grown_set4 w6 (w.heap.size + 1) y
      try simp only [Exit.inBlock, Exit.then]
      refine bodyPost_ret (res_cardC Try.results24 rfl (Box.set_ K4.out y)) rfl ?_
      exact ⟨y, rfl, HW.out, (HC.out.by_ hG H4.out (fun h0 q e => Nat.lt_succ_of_lt (HF.out h0 q e))).more (by omega), grown_fresh HG.out hG (Nat.le_succ _)⟩
    · obtain ⟨c0, c1, c2, c3⟩ := K3.out.cell
      obtain ⟨d0, d1, d2, d3⟩ := K4.out.cell
      have f2 := K4.out.frozen
      have z2 := K4.out.lt
      go_wp2_with fail
      have hG := grown_set4 w2 (w.heap.size + 1) x
      try simp only [Exit.inBlock, Exit.then]
      refine bodyPost_ret (res_cardC Try.results24 rfl (Box.set_ K4.out x)) rfl ?_
      exact ⟨x, rfl, HW.out, (HC.out.by_ hG H4.out (fun h0 q e => Nat.lt_succ_of_lt (HF.out h0 q e))).more (by omega), grown_fresh HG.out hG (Nat.le_succ _)⟩
  · go_wp2_with fail
    refine (card_ g p n c l (N + 2) _ (by omega) hm HC.out).mono ?_
    rintro e w2 ⟨y, rfl, hy, C, G⟩
    have HC := Lib.hid C
    have HG := Lib.hid (HG.out.trans G)
    have K4 := Lib.hid (Box.by_ K4.out G (Nat.ne_of_lt H4.out))
    have HY := Lib.hid hy
    clear C G hy
    obtain ⟨d0, d1, d2, d3⟩ := K4.out.cell
    have f2 := K4.out.frozen
    have z2 := K4.out.lt
    go_wp2_with fail
    have hG := grown_set4 w2 (w.heap.size + 1) y
    try simp only [Exit.inBlock, Exit.then]
    refine bodyPost_ret (res_cardC Try.results24 rfl (Box.set_ K4.out y)) rfl ?_
    exact ⟨y, rfl, HY.out, (HC.out.by_ hG H4.out (fun h0 q e => Nat.lt_succ_of_lt (HF.out h0 q e))).more (by omega), grown_fresh HG.out hG (Nat.le_succ _)⟩
end Go.Proofs.Ytkmkochganknmaa.draw
