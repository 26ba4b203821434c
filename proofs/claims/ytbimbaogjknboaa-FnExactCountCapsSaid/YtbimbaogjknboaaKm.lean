/- CountCaps: the model. -/
import Derived.Test.YtbimbaogjknboaaKk
namespace Go.Proofs.Ytbimbaogjknboaa.cards
open Go.RowKit
set_option linter.unusedVariables false

set_option maxRecDepth 100000 in
set_option maxHeartbeats 4000000 in
theorem spec_count (l : List Cd) (N : Int) (p : Option Addr) (n cp : Nat) (w : World) (hn : l.length = n) (hl : n ≤ 1000000000) (hr : Rd w p (flat l)) :
    Calls Try.prog 37 #[.slice p n cp, .int .i64 N] w fun e w' => e = .returned (.tuple #[.int .i64 (capsR l N).1, .bool (capsR l N).2]) ∧ Below w.heap.size w w' := by
  have HN := Lib.hid hn
  have HR := Lib.hid hr
  clear hn hr
  go_enter Try.func37, Try.ntmps37
  go_wp2_with fail
  refine ((l3_pool l p n cp _ HN.out hl (by repeat (first | with_reducible exact HR.out | with_reducible apply Rd.drewN | with_reducible apply Rd.drew | with_reducible apply Rd.alloc)))).mono ?_
  rintro e w1 ⟨rfl, b⟩
  have Sw1 := Lib.hid b.size
  have HB := Lib.hid (chain0 (w := w) (by repeat (first | with_reducible exact Below.refl _ _ | with_reducible exact HB.out | with_reducible apply Below.drew | with_reducible apply bdN | with_reducible refine Below.alloc ?_ (by first | exact Nat.le_refl _ | (simp; done) | (simp; omega) | (have := HB.out.size; simp at *; omega)) _ | with_reducible refine Below.setCell ?_ (by first | exact Nat.le_refl _ | (simp; done) | (simp; omega) | (have := HB.out.size; simp at *; omega)) _)) b)
  have HR := Lib.hid (Rd.below (by repeat (first | with_reducible exact HR.out | with_reducible apply Rd.drewN | with_reducible apply Rd.drew | with_reducible apply Rd.alloc)) b)
  clear b
  cases hh : poolB l
  · have HT := Lib.hid (capsR_no (l := l) (N := N) (by simp [hh]))
    go_wp2_with fail
    go_ret2
    exact ⟨ret_ib HT.out.symm, by repeat (first | with_reducible exact Below.refl _ _ | with_reducible exact HB.out | with_reducible apply Below.drew | with_reducible apply bdN | with_reducible refine Below.alloc ?_ (by first | exact Nat.le_refl _ | (simp; done) | (simp; omega) | (have := HB.out.size; simp at *; omega)) _ | with_reducible refine Below.setCell ?_ (by first | exact Nat.le_refl _ | (simp; done) | (simp; omega) | (have := HB.out.size; simp at *; omega)) _)⟩
  · by_cases g0 : 0 ≤ N ∧ N ≤ 15
    · obtain ⟨g0, g1⟩ := g0
      have HT := Lib.hid (capsR_yes (l := l) (N := N) hh g0 g1)
      have HH := Lib.hid (handB_true.1 (poolB_iff.1 hh).1)
      have h15 : n ≤ 15 := by have := (poolB_iff.1 hh).2; have := HN.out; omega
      have HE := Lib.hid (OwnI.empty w1 w.heap.size HB.out.size)
      have HC := Lib.hid (show lc l n [] N.toNat = caps l N by
        have h := caps_lc (l := l) N.toNat
        rw [HN.out, Int.toNat_of_nonneg g0] at h
        exact h.symm)
      have H3 := Lib.hid (l3_count l p n cp HN.out h15 HH.out.2.1 HH.out.2.2 n 0 0 [] w1.heap.size 0 0 N.toNat N _ rfl (by omega) (by omega) (by omega) rfl (Good.nil l) (by repeat (first | with_reducible exact HR.out | with_reducible apply Rd.drewN | with_reducible apply Rd.drew | with_reducible apply Rd.alloc)) HE.out.rd)
      rw [HC.out] at H3
      clear hh
      go_wp2_with fail
      refine (in_yes N 0 15 _ g0 g1).mono ?_
      rintro e w' ⟨rfl, rfl⟩
      go_wp2_with fail
      refine (H3.out).mono ?_
      rintro e w2 ⟨rfl, b⟩
      have Sw2 := Lib.hid b.size
      have HB := Lib.hid (chain0 (w := w) (by repeat (first | with_reducible exact Below.refl _ _ | with_reducible exact HB.out | with_reducible apply Below.drew | with_reducible apply bdN | with_reducible refine Below.alloc ?_ (by first | exact Nat.le_refl _ | (simp; done) | (simp; omega) | (have := HB.out.size; simp at *; omega)) _ | with_reducible refine Below.setCell ?_ (by first | exact Nat.le_refl _ | (simp; done) | (simp; omega) | (have := HB.out.size; simp at *; omega)) _)) b)
      have HR := Lib.hid (Rd.below (by repeat (first | with_reducible exact HR.out | with_reducible apply Rd.drewN | with_reducible apply Rd.drew | with_reducible apply Rd.alloc)) b)
      clear b
      go_wp2_with fail
      go_ret2
      exact ⟨ret_ib HT.out.symm, HB.out⟩
    · have HT := Lib.hid (capsR_no (l := l) (N := N) (by rintro ⟨_, h0, h1⟩; exact g0 ⟨h0, h1⟩))
      have hno : N < 0 ∨ 15 < N := by omega
      have HNo := Lib.hid hno
      clear hh g0 hno
      go_wp2_with fail
      refine (in_no N 0 15 _ HNo.out).mono ?_
      rintro e w' ⟨rfl, rfl⟩
      go_wp2_with fail
      go_ret2
      exact ⟨ret_ib HT.out.symm, by repeat (first | with_reducible exact Below.refl _ _ | with_reducible exact HB.out | with_reducible apply Below.drew | with_reducible apply bdN | with_reducible refine Below.alloc ?_ (by first | exact Nat.le_refl _ | (simp; done) | (simp; omega) | (have := HB.out.size; simp at *; omega)) _ | with_reducible refine Below.setCell ?_ (by first | exact Nat.le_refl _ | (simp; done) | (simp; omega) | (have := HB.out.size; simp at *; omega)) _)⟩
end Go.Proofs.Ytbimbaogjknboaa.cards
