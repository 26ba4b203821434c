/- The model's test whether a line is apart from others. -/
import Derived.Test.YtnmlggieabjapaaZc
namespace Go.Proofs.Ytnmlggieabjapaa.parting
open Go.RowKit
open cards maps
set_option linter.unusedVariables false

theorem meet_sym (x y : A3) : meet x y = meet y x := by
  rw [Bool.eq_iff_iff]
  unfold meet inL
  simp only [Bool.or_eq_true, decide_eq_true_eq]
  omega
theorem com_gt (x y : A3) : decide ((0 : Int) < (com x y : Nat)) = meet y x := by
  rw [meet_sym, ← com_meet]
  simp
theorem free_bad {l : List A3} {x y : A3} {k : Nat} (h : l[k]? = some x) (hm : meet x y = true) : false = free l y := by
  symm
  unfold free
  rw [List.all_eq_false]
  exact ⟨x, List.mem_of_getElem? h, by simp [hm]⟩
theorem free_good {l : List A3} {y : A3} (h : ∀ (j : Nat) x, l[j]? = some x → meet x y = false) : true = free l y := by
  symm
  unfold free
  rw [List.all_eq_true]
  intro x hx
  obtain ⟨j, hj⟩ := List.mem_iff_getElem?.1 hx
  simp [h j x hj]

set_option maxRecDepth 100000 in
set_option maxHeartbeats 4000000 in
theorem l7_free (l : List A3) (y : A3) (p : Option Addr) (n c : Nat) (w : World) (hn : l.length = n) (hl : n ≤ 1000000000) (hr : Rd w p (A3.flat l)) :
    Calls Try.prog 76 #[.slice p n c, y.val] w fun e w' => e = .returned (.bool (free l y)) ∧ Below w.heap.size w w' := by
  have HN := Lib.hid hn
  have HR := Lib.hid hr
  clear hn hr
  go_enter Try.func76, Try.ntmps76
  go_wp2_with fail
  go_loopw [5] (fun i wr => ∃ k : Nat, k ≤ n ∧ i = .int .i64 k ∧ Hid (∀ (j : Nat) x, j < k → l[j]? = some x → meet x y = false) ∧ Hid (Below w.heap.size w wr) ∧ Hid (TBox wr w.heap.size y)) (fun i _ => n - (intOf i).toNat)
  case atStart => exact ⟨0, Nat.zero_le _, rfl, Lib.hid (fun j y h => by omega), Lib.hid (by repeat (first | with_reducible exact Below.refl _ _ | with_reducible exact HB.out | with_reducible apply Below.drew | with_reducible apply bdN | with_reducible refine Below.alloc ?_ (by first | exact Nat.le_refl _ | with_reducible exact HB.out.size | omega | (simp; done) | (simp; omega) | (have := HB.out.size; simp at *; omega)) _ | with_reducible refine Below.setCell ?_ (by first | exact Nat.le_refl _ | with_reducible exact HB.out.size | omega | (simp; done) | (simp; omega) | (have := HB.out.size; simp at *; omega)) _)), Lib.hid (TBox.newAt rfl rfl)⟩
  case round =>
    obtain ⟨k, hk, rfl, HU, HB, K0⟩ := hrel
    obtain ⟨k0a, k0b, k0c, _⟩ := K0.out.cell
    by_cases hlt : k < n
    · obtain ⟨b, o, x, rfl, hb, hx, c0, c1, c2⟩ := (HR.out.below HB.out).aA3 (k := k) (by rw [HN.out]; exact hlt)
      have HX := Lib.hid hx
      clear hx
      have m0 : (0 : Int) ≤ (k : Int) := by omega
      have m1 : (k : Int) < (n : Int) := by omega
      have HG := com_gt x y
      have HC := fun w => l7_common x y w
      obtain ⟨v, hv⟩ : ∃ v : Int, ((com x y : Nat) : Int) = v := ⟨_, rfl⟩
      rw [hv] at HG HC
      replace HC := Lib.hid HC
      replace HG := Lib.hid HG
      clear hv
      go_wp2_with fail
      have qc0 := fun d os => cell_regrown c0 d os
      have qc1 := fun d os => cell_regrown c1 d os
      have qc2 := fun d os => cell_regrown c2 d os
      have qk0a := fun d os => cell_regrown k0a d os
      have qk0b := fun d os => cell_regrown k0b d os
      have qk0c := fun d os => cell_regrown k0c d os
      refine wp_region_quiet_below (by kernel_rfl) (by kernel_rfl) ?_
      repeat (first | go_big_quiet_step ((go_at_call 66; with_reducible exact Calls.regrown_of (HC.out _))) | quiet_step ((go_at_call 66; with_reducible exact Calls.regrown_of (HC.out _))))
      refine wpQuiet_nil ?_
      intro w1 hw2
      have b : Below wr.heap.size wr w1 := by obtain ⟨r, hr⟩ := hw2; rw [hr]; exact below_regrown _ _ _
      clear hw2 qc0 qc1 qc2 qk0a qk0b qk0c
      have Sw1 := Lib.hid b.size
      have HB := Lib.hid (chain0 (w := w) (by repeat (first | with_reducible exact Below.refl _ _ | with_reducible exact HB.out | with_reducible apply Below.drew | with_reducible apply bdN | with_reducible refine Below.alloc ?_ (by first | exact Nat.le_refl _ | with_reducible exact HB.out.size | omega | (simp; done) | (simp; omega) | (have := HB.out.size; simp at *; omega)) _ | with_reducible refine Below.setCell ?_ (by first | exact Nat.le_refl _ | with_reducible exact HB.out.size | omega | (simp; done) | (simp; omega) | (have := HB.out.size; simp at *; omega)) _)) b)
      have K0 := Lib.hid (TBox.below (by repeat (first | with_reducible exact K0.out | with_reducible apply TBox.drewN | with_reducible apply TBox.drew | with_reducible apply TBox.alloc)) b)
      clear b
      clear c0 c1 c2 k0a k0b k0c
      cases hs : meet x y
      · have HU1 := Lib.hid (show ∀ (j : Nat) z, j < k + 1 → l[j]? = some z → meet z y = false from fun j z hj hz => by
          rcases Nat.lt_or_ge j k with h | h
          · exact HU.out j z h hz
          · obtain rfl : j = k := by omega
            have h1 := HX.out; rw [hz] at h1; injection h1 with h1; subst h1; exact hs)
        have hv : ¬ (0 < v) := of_decide_eq_false (by rw [HG.out, meet_sym]; exact hs)
        go_wp2_with fail
        go_roundw
        case rel => exact ⟨k + 1, by omega, by go_num, HU1, HB, K0⟩
        case measure => simp [intOf]; omega
      · have hv : 0 < v := of_decide_eq_true (by rw [HG.out, meet_sym]; exact hs)
        go_wp2_with fail
        go_ret
        exact ⟨ret_bool (free_bad HX.out hs), HB.out⟩
    · obtain rfl : k = n := by omega
      go_wp2_with fail
      go_ret
      exact ⟨ret_bool (free_good (fun j x hx => HU.out j x (by rw [← HN.out]; exact (List.getElem?_eq_some_iff.1 hx).1) hx)), HB.out⟩
end Go.Proofs.Ytnmlggieabjapaa.parting
