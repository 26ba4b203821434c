/- Is a list a picking: the model's test. -/
import Derived.Test.YtnmlggieabjapaaZd
import Derived.Test.YtnmlggieabjapaaZg
namespace Go.Proofs.Ytnmlggieabjapaa.parting
open Go.RowKit
open cards maps
set_option linter.unusedVariables false

def hasL (l : List A3) (y : A3) : Bool := l.any (fun x => same3 x y)
theorem hasL_iff {l : List A3} {y : A3} : hasL l y = true ↔ y ∈ l := by
  unfold hasL
  rw [List.any_eq_true]
  constructor
  · rintro ⟨x, hx, h⟩; rw [← same3_iff.1 h]; exact hx
  · intro h; exact ⟨y, h, same3_iff.2 rfl⟩
theorem hasL_yes {l : List A3} {x y : A3} {k : Nat} (h : l[k]? = some x) (hs : same3 x y = true) : true = hasL l y := by
  symm; rw [hasL_iff, ← same3_iff.1 hs]; exact List.mem_of_getElem? h
theorem hasL_no {l : List A3} {y : A3} (h : ∀ (j : Nat) x, l[j]? = some x → same3 x y = false) : false = hasL l y := by
  symm
  unfold hasL
  rw [List.any_eq_false]
  intro x hx
  obtain ⟨j, hj⟩ := List.mem_iff_getElem?.1 hx
  simp [h j x hj]

set_option maxRecDepth 100000 in
set_option maxHeartbeats 4000000 in
theorem l7_has (l : List A3) (y : A3) (p : Option Addr) (n c : Nat) (w : World) (hn : l.length = n) (hl : n ≤ 1000000000) (hr : Rd w p (A3.flat l)) (hwl : ∀ x ∈ l, wf3 x) (hy : wf3 y) :
    Calls Try.prog 96 #[.slice p n c, y.val] w fun e w' => e = .returned (.bool (hasL l y)) ∧ Below w.heap.size w w' := by
  have HN := Lib.hid hn
  have HR := Lib.hid hr
  have HWl := Lib.hid hwl
  have HY := Lib.hid hy
  clear hn hr hwl hy
  go_enter Try.func96, Try.ntmps96
  go_wp2_with fail
  go_loopw [5] (fun i wr => ∃ k : Nat, k ≤ n ∧ i = .int .i64 k ∧ Hid (∀ (j : Nat) x, j < k → l[j]? = some x → same3 x y = false) ∧ Hid (Below w.heap.size w wr) ∧ Hid (TBox wr w.heap.size y)) (fun i _ => n - (intOf i).toNat)
  case atStart => exact ⟨0, Nat.zero_le _, rfl, Lib.hid (fun j y h => by omega), Lib.hid (by repeat (first | with_reducible exact Below.refl _ _ | with_reducible exact HB.out | with_reducible apply Below.drew | with_reducible apply bdN | with_reducible refine Below.alloc ?_ (by first | exact Nat.le_refl _ | with_reducible exact HB.out.size | omega | (simp; done) | (simp; omega) | (have := HB.out.size; simp at *; omega)) _ | with_reducible refine Below.setCell ?_ (by first | exact Nat.le_refl _ | with_reducible exact HB.out.size | omega | (simp; done) | (simp; omega) | (have := HB.out.size; simp at *; omega)) _)), Lib.hid (TBox.newAt rfl rfl)⟩
  case round =>
    obtain ⟨k, hk, rfl, HU, HB, K0⟩ := hrel
    obtain ⟨k0a, k0b, k0c, _⟩ := K0.out.cell
    by_cases hlt : k < n
    · obtain ⟨b, o, x, rfl, hb, hx, c0, c1, c2⟩ := (HR.out.below HB.out).aA3 (k := k) (by rw [HN.out]; exact hlt)
      have HX := Lib.hid hx
      have he := eq3 x y (HWl.out x (List.mem_of_getElem? hx)) HY.out
      clear hx
      have m0 : (0 : Int) ≤ (k : Int) := by omega
      have m1 : (k : Int) < (n : Int) := by omega
      cases hs : same3 x y
      · have HU1 := Lib.hid (show ∀ (j : Nat) z, j < k + 1 → l[j]? = some z → same3 z y = false from fun j z hj hz => by
          rcases Nat.lt_or_ge j k with h | h
          · exact HU.out j z h hz
          · obtain rfl : j = k := by omega
            have h1 := HX.out; rw [hz] at h1; injection h1 with h1; subst h1; exact hs)
        rw [hs] at he
        clear hs
        go_wp2_with fail
        have qc0 := fun d os => cell_regrown c0 d os
        have qc1 := fun d os => cell_regrown c1 d os
        have qc2 := fun d os => cell_regrown c2 d os
        have qk0a := fun d os => cell_regrown k0a d os
        have qk0b := fun d os => cell_regrown k0b d os
        have qk0c := fun d os => cell_regrown k0c d os
        refine wp_region_quiet_below (by kernel_rfl) (by kernel_rfl) ?_
        repeat (first | go_big_quiet_step ((fail)) | quiet_step ((fail)))
        refine wpQuiet_nil ?_
        intro w1 hw2
        have b : Below wr.heap.size wr w1 := by obtain ⟨r, hr⟩ := hw2; rw [hr]; exact below_regrown _ _ _
        clear hw2 qc0 qc1 qc2 qk0a qk0b qk0c
        have Sw1 := Lib.hid b.size
        have HB := Lib.hid (chain0 (w := w) (by repeat (first | with_reducible exact Below.refl _ _ | with_reducible exact HB.out | with_reducible apply Below.drew | with_reducible apply bdN | with_reducible refine Below.alloc ?_ (by first | exact Nat.le_refl _ | with_reducible exact HB.out.size | omega | (simp; done) | (simp; omega) | (have := HB.out.size; simp at *; omega)) _ | with_reducible refine Below.setCell ?_ (by first | exact Nat.le_refl _ | with_reducible exact HB.out.size | omega | (simp; done) | (simp; omega) | (have := HB.out.size; simp at *; omega)) _)) b)
        have K0 := Lib.hid (TBox.below (by repeat (first | with_reducible exact K0.out | with_reducible apply TBox.drewN | with_reducible apply TBox.drew | with_reducible apply TBox.alloc)) b)
        clear b
        clear c0 c1 c2 k0a k0b k0c he
        go_wp2_with fail
        go_roundw
        case rel => exact ⟨k + 1, by omega, by go_num, HU1, HB, K0⟩
        case measure => simp [intOf]; omega
      · have HF := Lib.hid (hasL_yes HX.out hs)
        rw [hs] at he
        clear hs
        go_wp2_with fail
        have qc0 := fun d os => cell_regrown c0 d os
        have qc1 := fun d os => cell_regrown c1 d os
        have qc2 := fun d os => cell_regrown c2 d os
        have qk0a := fun d os => cell_regrown k0a d os
        have qk0b := fun d os => cell_regrown k0b d os
        have qk0c := fun d os => cell_regrown k0c d os
        refine wp_region_quiet_below (by kernel_rfl) (by kernel_rfl) ?_
        repeat (first | go_big_quiet_step ((fail)) | quiet_step ((fail)))
        refine wpQuiet_nil ?_
        intro w1 hw2
        have b : Below wr.heap.size wr w1 := by obtain ⟨r, hr⟩ := hw2; rw [hr]; exact below_regrown _ _ _
        clear hw2 qc0 qc1 qc2 qk0a qk0b qk0c
        have Sw1 := Lib.hid b.size
        have HB := Lib.hid (chain0 (w := w) (by repeat (first | with_reducible exact Below.refl _ _ | with_reducible exact HB.out | with_reducible apply Below.drew | with_reducible apply bdN | with_reducible refine Below.alloc ?_ (by first | exact Nat.le_refl _ | with_reducible exact HB.out.size | omega | (simp; done) | (simp; omega) | (have := HB.out.size; simp at *; omega)) _ | with_reducible refine Below.setCell ?_ (by first | exact Nat.le_refl _ | with_reducible exact HB.out.size | omega | (simp; done) | (simp; omega) | (have := HB.out.size; simp at *; omega)) _)) b)
        have K0 := Lib.hid (TBox.below (by repeat (first | with_reducible exact K0.out | with_reducible apply TBox.drewN | with_reducible apply TBox.drew | with_reducible apply TBox.alloc)) b)
        clear b
        clear c0 c1 c2 k0a k0b k0c he
        go_wp2_with fail
        go_ret
        exact ⟨ret_bool HF.out, HB.out⟩
    · obtain rfl : k = n := by omega
      go_wp2_with fail
      go_ret
      exact ⟨ret_bool (hasL_no (fun j x hx => HU.out j x (by rw [← HN.out]; exact (List.getElem?_eq_some_iff.1 hx).1) hx)), HB.out⟩

theorem bef_0 {x y : A3} (h : (x.a != y.a) = true) : decide (x.a < y.a) = befL x y := by
  have h : x.a ≠ y.a := by simpa using h
  unfold befL; rw [Bool.eq_iff_iff, decide_eq_true_eq, decide_eq_true_eq]; omega
theorem bef_1 {x y : A3} (h : (x.a != y.a) = false) (h1 : (x.b != y.b) = true) : decide (x.b < y.b) = befL x y := by
  have h : x.a = y.a := by simpa using h
  have h1 : x.b ≠ y.b := by simpa using h1
  unfold befL; rw [Bool.eq_iff_iff, decide_eq_true_eq, decide_eq_true_eq]; omega
theorem bef_2 {x y : A3} (h : (x.a != y.a) = false) (h1 : (x.b != y.b) = false) (h2 : (x.c != y.c) = true) : decide (x.c < y.c) = befL x y := by
  have h : x.a = y.a := by simpa using h
  have h1 : x.b = y.b := by simpa using h1
  have h2 : x.c ≠ y.c := by simpa using h2
  unfold befL; rw [Bool.eq_iff_iff, decide_eq_true_eq, decide_eq_true_eq]; omega
theorem bef_3 {x y : A3} (h : (x.a != y.a) = false) (h1 : (x.b != y.b) = false) (h2 : (x.c != y.c) = false) : false = befL x y := by
  have h : x.a = y.a := by simpa using h
  have h1 : x.b = y.b := by simpa using h1
  have h2 : x.c = y.c := by simpa using h2
  unfold befL; symm; exact decide_eq_false (by omega)
set_option maxRecDepth 100000 in
set_option maxHeartbeats 4000000 in
theorem l7_before (x y : A3) (w : World) :
    Calls Try.prog 97 #[x.val, y.val] w fun e w' => e = .returned (.bool (befL x y)) ∧ Below w.heap.size w w' := by
  cases h0 : (x.a != y.a)
  · cases h1 : (x.b != y.b)
    · cases h2 : (x.c != y.c)
      · have HT := Lib.hid (bef_3 h0 h1 h2)
        go_enter Try.func97, Try.ntmps97
        go_wp2
        refine wp_loop_rounds 5 ?_
        repeat (any_goals (rw [rounds_succ]; go_wp2; try (go_quiet (fail); go_wp2)))
        go_ret
        exact ⟨ret_bool HT.out, by repeat (first | with_reducible exact Below.refl _ _ | with_reducible exact HB.out | with_reducible apply Below.drew | with_reducible apply bdN | with_reducible refine Below.alloc ?_ (by first | exact Nat.le_refl _ | with_reducible exact HB.out.size | omega | (simp; done) | (simp; omega) | (have := HB.out.size; simp at *; omega)) _ | with_reducible refine Below.setCell ?_ (by first | exact Nat.le_refl _ | with_reducible exact HB.out.size | omega | (simp; done) | (simp; omega) | (have := HB.out.size; simp at *; omega)) _)⟩
      · have HT := Lib.hid (bef_2 h0 h1 h2)
        go_enter Try.func97, Try.ntmps97
        go_wp2
        refine wp_loop_rounds 5 ?_
        repeat (any_goals (rw [rounds_succ]; go_wp2; try (go_quiet (fail); go_wp2)))
        go_quiet (fail)
        go_wp2
        go_ret
        exact ⟨ret_bool HT.out, by repeat (first | with_reducible exact Below.refl _ _ | with_reducible exact HB.out | with_reducible apply Below.drew | with_reducible apply bdN | with_reducible refine Below.alloc ?_ (by first | exact Nat.le_refl _ | with_reducible exact HB.out.size | omega | (simp; done) | (simp; omega) | (have := HB.out.size; simp at *; omega)) _ | with_reducible refine Below.setCell ?_ (by first | exact Nat.le_refl _ | with_reducible exact HB.out.size | omega | (simp; done) | (simp; omega) | (have := HB.out.size; simp at *; omega)) _)⟩
    · have HT := Lib.hid (bef_1 h0 h1)
      go_enter Try.func97, Try.ntmps97
      go_wp2
      refine wp_loop_rounds 5 ?_
      repeat (any_goals (rw [rounds_succ]; go_wp2; try (go_quiet (fail); go_wp2)))
      go_quiet (fail)
      go_wp2
      go_ret
      exact ⟨ret_bool HT.out, by repeat (first | with_reducible exact Below.refl _ _ | with_reducible exact HB.out | with_reducible apply Below.drew | with_reducible apply bdN | with_reducible refine Below.alloc ?_ (by first | exact Nat.le_refl _ | with_reducible exact HB.out.size | omega | (simp; done) | (simp; omega) | (have := HB.out.size; simp at *; omega)) _ | with_reducible refine Below.setCell ?_ (by first | exact Nat.le_refl _ | with_reducible exact HB.out.size | omega | (simp; done) | (simp; omega) | (have := HB.out.size; simp at *; omega)) _)⟩
  · have HT := Lib.hid (bef_0 h0)
    go_enter Try.func97, Try.ntmps97
    go_wp2
    refine wp_loop_rounds 5 ?_
    repeat (any_goals (rw [rounds_succ]; go_wp2; try (go_quiet (fail); go_wp2)))
    go_quiet (fail)
    go_wp2
    go_ret
    exact ⟨ret_bool HT.out, by repeat (first | with_reducible exact Below.refl _ _ | with_reducible exact HB.out | with_reducible apply Below.drew | with_reducible apply bdN | with_reducible refine Below.alloc ?_ (by first | exact Nat.le_refl _ | with_reducible exact HB.out.size | omega | (simp; done) | (simp; omega) | (have := HB.out.size; simp at *; omega)) _ | with_reducible refine Below.setCell ?_ (by first | exact Nat.le_refl _ | with_reducible exact HB.out.size | omega | (simp; done) | (simp; omega) | (have := HB.out.size; simp at *; omega)) _)⟩
end Go.Proofs.Ytnmlggieabjapaa.parting
