/- CountCaps: the program's walk, and the model's count. -/
import Derived.Test.YtbimbaogjknboaaKi
import Derived.Test.YtbimbaogjknboaaSh
namespace Go.Proofs.Ytbimbaogjknboaa.cards
open Go.RowKit
set_option linter.unusedVariables false

theorem capsR_no {l : List Cd} {N : Int} (h : ¬ (poolB l = true ∧ 0 ≤ N ∧ N ≤ 15)) : capsR l N = (0, false) := by unfold capsR; rw [if_neg h]
theorem capsR_yes {l : List Cd} {N : Int} (h : poolB l = true) (h0 : 0 ≤ N) (h1 : N ≤ 15) : capsR l N = (caps l N, true) := by unfold capsR; rw [if_pos ⟨h, h0, h1⟩]

set_option maxRecDepth 100000 in
set_option maxHeartbeats 4000000 in
theorem impl_count (l : List Cd) (N : Int) (p : Option Addr) (n cp : Nat) (w : World) (hn : l.length = n) (hl : n ≤ 1000000000) (hr : Rd w p (flat l)) :
    Calls Try.prog 38 #[.slice p n cp, .int .i64 N] w fun e w' => e = .returned (.tuple #[.int .i64 (capsR l N).1, .bool (capsR l N).2]) ∧ Below w.heap.size w w' := by
  have hmf : ∀ (fn : Fn) (first cap : Array Value) (w : World), (Instr.makeFunc fn first cap).run Try.prog w = .ok (.func fn first cap) w := fun _ _ _ _ => rfl
  have HN := Lib.hid hn
  have HR0 := Lib.hid hr
  have HR := Lib.hid hr
  clear hn hr
  go_enter Try.func38, Try.ntmps38
  go_wp2_with fail
  refine (is_pool l p n cp _ HN.out hl (by repeat (first | with_reducible exact HR.out | with_reducible apply Rd.drewN | with_reducible apply Rd.drew | with_reducible apply Rd.alloc))).mono ?_
  rintro e w1 ⟨rfl, b⟩
  have hb0 : w1.heap[w.heap.size]? = some (.cells #[.int .i64 N] 3) := (b.block w.heap.size (by simp)).trans (heap_alloc_new w _)
  have hc0 : w1.cell? ⟨w.heap.size, 0, none⟩ = some (.int .i64 N) := (cell_of_row w1 w.heap.size 0 _ _ _ hb0).trans rfl
  have hz1 : w.heap.size + 1 ≤ w1.heap.size := by have := b.size; simpa using this
  have Sw1 := Lib.hid b.size
  have HB := Lib.hid (chain0 (w := w) (by repeat (first | with_reducible exact Below.refl _ _ | with_reducible exact HB.out | with_reducible apply Below.drew | with_reducible apply bdN | with_reducible refine Below.alloc ?_ (by first | exact Nat.le_refl _ | (simp; done) | (simp; omega) | (have := HB.out.size; simp at *; omega)) _ | with_reducible refine Below.setCell ?_ (by first | exact Nat.le_refl _ | (simp; done) | (simp; omega) | (have := HB.out.size; simp at *; omega)) _)) b)
  have HR := Lib.hid (Rd.below (by repeat (first | with_reducible exact HR.out | with_reducible apply Rd.drewN | with_reducible apply Rd.drew | with_reducible apply Rd.alloc)) b)
  clear b
  have H0 := Lib.hid hb0
  have HZ1 := Lib.hid hz1
  clear hb0 hz1
  cases hh : poolB l
  · have HT := Lib.hid (capsR_no (l := l) (N := N) (by simp [hh]))
    go_wp2_with fail
    go_ret2
    exact ⟨ret_ib HT.out.symm, by repeat (first | with_reducible exact Below.refl _ _ | with_reducible exact HB.out | with_reducible apply Below.drew | with_reducible apply bdN | with_reducible refine Below.alloc ?_ (by first | exact Nat.le_refl _ | (simp; done) | (simp; omega) | (have := HB.out.size; simp at *; omega)) _ | with_reducible refine Below.setCell ?_ (by first | exact Nat.le_refl _ | (simp; done) | (simp; omega) | (have := HB.out.size; simp at *; omega)) _)⟩
  · by_cases g0 : N < 0
    · have HT := Lib.hid (capsR_no (l := l) (N := N) (by omega))
      go_wp2_with fail
      go_ret2
      exact ⟨ret_ib HT.out.symm, by repeat (first | with_reducible exact Below.refl _ _ | with_reducible exact HB.out | with_reducible apply Below.drew | with_reducible apply bdN | with_reducible refine Below.alloc ?_ (by first | exact Nat.le_refl _ | (simp; done) | (simp; omega) | (have := HB.out.size; simp at *; omega)) _ | with_reducible refine Below.setCell ?_ (by first | exact Nat.le_refl _ | (simp; done) | (simp; omega) | (have := HB.out.size; simp at *; omega)) _)⟩
    · by_cases g1 : 15 < N
      · have HT := Lib.hid (capsR_no (l := l) (N := N) (by omega))
        go_wp2_with fail
        go_ret2
        exact ⟨ret_ib HT.out.symm, by repeat (first | with_reducible exact Below.refl _ _ | with_reducible exact HB.out | with_reducible apply Below.drew | with_reducible apply bdN | with_reducible refine Below.alloc ?_ (by first | exact Nat.le_refl _ | (simp; done) | (simp; omega) | (have := HB.out.size; simp at *; omega)) _ | with_reducible refine Below.setCell ?_ (by first | exact Nat.le_refl _ | (simp; done) | (simp; omega) | (have := HB.out.size; simp at *; omega)) _)⟩
      · have HT := Lib.hid (capsR_yes (l := l) (N := N) hh (by omega) (by omega))
        have HH := Lib.hid (handB_true.1 (poolB_iff.1 hh).1)
        have HL := Lib.hid (poolB_iff.1 hh).2
        have h15 : n ≤ 15 := by have := HL.out; have := HN.out; omega
        have HC := Lib.hid (show (tl l n []).foldl (cw N) (cw N 0 []) = caps l N by rw [← HN.out]; exact caps_cw HL.out)
        have hz2 : (w1.alloc (.cells #[.int .i64 0] 3)).heap.size = w1.heap.size + 1 := by simp
        have hb1 := (Below.heap_alloc (w1.alloc (.cells #[.int .i64 0] 3)) (.cells #[] 3) w1.heap.size (by omega)).trans (heap_alloc_new w1 (.cells #[.int .i64 0] 3))
        have hb2 := (Below.heap_alloc (w1.alloc (.cells #[.int .i64 0] 3)) (.cells #[] 3) w.heap.size (by have := HZ1.out; omega)).trans ((Below.heap_alloc w1 (.cells #[.int .i64 0] 3) w.heap.size (by have := HZ1.out; omega)).trans H0.out)
        have ho := OwnI.empty (w1.alloc (.cells #[.int .i64 0] 3)) w.heap.size (by have := HZ1.out; omega)
        rw [hz2] at ho
        have HO := Lib.hid ho
        have HJ : Hid (Jc w.heap.size w.heap.size w1.heap.size N ((w1.alloc (.cells #[.int .i64 0] 3)).alloc (.cells #[] 3)) 0 (fun j => j = w1.heap.size ∨ j = w.heap.size)) := Lib.hid ⟨hb1, hb2, by have := HZ1.out; omega, Nat.le_refl _, by have := HZ1.out; omega, rfl⟩
        have HB3 := Lib.hid ((HB.out.alloc (by have := HZ1.out; omega) (.cells #[.int .i64 0] 3)).alloc (by have := HZ1.out; omega) (.cells #[] 3))
        clear hz2 hb1 hb2 ho hh
        go_wp2_with fail
        refine (visit_count Int (cw N) (Jc w.heap.size w.heap.size w1.heap.size N) (.pointer (some ⟨w.heap.size, 0, none⟩)) (.pointer (some ⟨w1.heap.size, 0, none⟩)) w Jc.one Jc.two (fun w s S ps g m c hJ _ _ hm hl => count_fun _ _ _ _ w s S ps g m c hJ hm hl) l p n cp HN.out (by omega) HR0.out HH.out.2.1 HH.out.2.2 n 0 0 [] (w1.heap.size + 1) 0 0 0 _ _ rfl (by omega) rfl (Good.nil l) HJ.out HO.out (by have := HZ1.out; omega) HB3.out).mono ?_
        rintro e w4 ⟨rfl, S', hj, ht, hs', ho⟩
        rw [HC.out] at hj
        obtain ⟨h1, h2, _, _, _, rfl⟩ := hj
        have hc : w4.cell? ⟨w1.heap.size, 0, none⟩ = some (.int .i64 (caps l N)) := (cell_of_row w4 w1.heap.size 0 _ _ _ h1).trans rfl
        have HB4 : Hid (Below w.heap.size w w4) := Lib.hid (Turn.below HB3.out HB3.out.size ht (fun j hj => by have := HZ1.out; omega))
        clear h1 h2 ht hs' ho
        try go_end0
        go_wp2_with fail
        go_ret2
        exact ⟨ret_ib HT.out.symm, HB4.out⟩
end Go.Proofs.Ytbimbaogjknboaa.cards
