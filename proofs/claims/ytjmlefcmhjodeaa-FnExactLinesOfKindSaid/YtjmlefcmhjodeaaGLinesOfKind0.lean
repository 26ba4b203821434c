/- Merged texts: E3. -/
import Derived.Test.YtjmlefcmhjodeaaR3
/- Slices of arrays of 3 numbers: comparisons, marks, and marks looked for again. -/
namespace Go.Proofs.Ytjmlefcmhjodeaa.cards
open Go.RowKit
set_option linter.unusedVariables false

def same_A3 (x y : A3) : Bool := decide (x.a = y.a ∧ x.b = y.b ∧ x.c = y.c)
theorem same_A3_self (x : A3) : same_A3 x x = true := by simp [same_A3]
theorem same_A3_n0 {x y : A3} (h : (x.a != y.a) = true) : false = same_A3 x y := by unfold same_A3; simp at h ⊢; omega
theorem same_A3_n1 {x y : A3} (h : (x.b != y.b) = true) : false = same_A3 x y := by unfold same_A3; simp at h ⊢; omega
theorem same_A3_n2 {x y : A3} (h : (x.c != y.c) = true) : false = same_A3 x y := by unfold same_A3; simp at h ⊢; omega
theorem same_A3_y {x y : A3} (h0 : (x.a != y.a) = false) (h1 : (x.b != y.b) = false) (h2 : (x.c != y.c) = false) : true = same_A3 x y := by unfold same_A3; simp at h0 h1 h2 ⊢; omega
set_option maxRecDepth 100000 in
set_option maxHeartbeats 1000000 in
theorem eq_A3 (x y : A3) (w : World) :
    Calls Try.prog 66 #[x.val, y.val] w fun e w' => e = .returned (.bool (same_A3 x y)) ∧ Below w.heap.size w w' := by
  go_enter Try.func66, Try.ntmps66
  go_wp2
  refine wp_loop_rounds 4 ?_
  repeat (any_goals (rw [rounds_succ]; go_wp2; try (go_quiet (fail); go_wp2)))
  all_goals go_ret
  all_goals refine ⟨ret_bool ?_, by repeat (first | with_reducible exact Below.refl _ _ | with_reducible exact HB.out | with_reducible apply Below.drew | with_reducible apply bdN | with_reducible refine Below.alloc ?_ (by first | exact Nat.le_refl _ | with_reducible exact HB.out.size | omega | (simp; done) | (simp; omega) | (have := HB.out.size; simp at *; omega)) _ | with_reducible refine Below.setCell ?_ (by first | exact Nat.le_refl _ | with_reducible exact HB.out.size | omega | (simp; done) | (simp; omega) | (have := HB.out.size; simp at *; omega)) _)⟩
  all_goals first | exact same_A3_n0 ‹_› | exact same_A3_n1 ‹_› | exact same_A3_n2 ‹_› | exact same_A3_y ‹_› ‹_› ‹_›

set_option maxRecDepth 100000 in
set_option maxHeartbeats 2000000 in
theorem eq_rowsA3 (l : List A3) (p1 p2 : Option Addr) (n c1 c2 : Nat) (w : World) (hn : l.length = n) (hl : n ≤ 1000000000) (hr1 : Rd w p1 (A3.flat l)) (hr2 : Rd w p2 (A3.flat l)) :
    Calls Try.prog 31 #[.slice p1 n c1, .slice p2 n c2] w fun e w' => e = .returned (.bool true) ∧ Below w.heap.size w w' := by
  have HN := Lib.hid hn
  have H1 := Lib.hid hr1
  have H2 := Lib.hid hr2
  clear hn hr1 hr2
  go_enter Try.func31, Try.ntmps31
  go_wp2_with fail
  go_loopw [5] (fun i wr => ∃ k : Nat, k ≤ n ∧ i = .int .i64 k ∧ Hid (Below w.heap.size w wr)) (fun i _ => n - (intOf i).toNat)
  case atStart => exact ⟨0, Nat.zero_le _, rfl, Below.refl _ _⟩
  case round =>
    obtain ⟨k, hk, rfl, HB⟩ := hrel
    by_cases hlt : k < n
    · obtain ⟨b, o, x, rfl, hb, hx, d0, d1, d2⟩ := (H1.out.below HB.out).aA3 (k := k) (by rw [HN.out]; exact hlt)
      obtain ⟨b', o', y, rfl, hb', hy, e0, e1, e2⟩ := (H2.out.below HB.out).aA3 (k := k) (by rw [HN.out]; exact hlt)
      obtain rfl : x = y := by rw [hx] at hy; injection hy
      have hs := same_A3_self x
      have b0 : (0 : Int) ≤ (k : Int) := by omega
      have b1 : (k : Int) < (n : Int) := by omega
      clear hx hy
      go_wp2_with fail
      have qd0 := fun d os => cell_regrown d0 d os
      have qd1 := fun d os => cell_regrown d1 d os
      have qd2 := fun d os => cell_regrown d2 d os
      have qe0 := fun d os => cell_regrown e0 d os
      have qe1 := fun d os => cell_regrown e1 d os
      have qe2 := fun d os => cell_regrown e2 d os
      refine wp_region_quiet_below (by kernel_rfl) (by kernel_rfl) ?_
      repeat (first | go_big_quiet_step ((go_at_call 66; with_reducible exact Calls.regrown_of (eq_A3 _ _ _))) | quiet_step ((go_at_call 66; with_reducible exact Calls.regrown_of (eq_A3 _ _ _))))
      refine wpQuiet_nil ?_
      intro w2 hw2
      have b : Below wr.heap.size wr w2 := by obtain ⟨r, hr⟩ := hw2; rw [hr]; exact below_regrown _ _ _
      clear hw2 qd0 qd1 qd2 qe0 qe1 qe2
      have Sw2 := Lib.hid b.size
      have HB := Lib.hid (chain0 (w := w) (by repeat (first | with_reducible exact Below.refl _ _ | with_reducible exact HB.out | with_reducible apply Below.drew | with_reducible apply bdN | with_reducible refine Below.alloc ?_ (by first | exact Nat.le_refl _ | with_reducible exact HB.out.size | omega | (simp; done) | (simp; omega) | (have := HB.out.size; simp at *; omega)) _ | with_reducible refine Below.setCell ?_ (by first | exact Nat.le_refl _ | with_reducible exact HB.out.size | omega | (simp; done) | (simp; omega) | (have := HB.out.size; simp at *; omega)) _)) b)
      clear b
      clear d0 d1 d2 e0 e1 e2
      go_wp2_with fail
      go_roundw
      case rel => exact ⟨k + 1, by omega, by go_num, HB⟩
      case measure => simp [intOf]; omega
    · obtain rfl : k = n := by omega
      go_wp2_with fail
      go_ret
      exact ⟨rfl, HB.out⟩

def mkA3 (k i : Nat) : A3 := ⟨(k : Int) + 3 * (i : Int), (k : Int) + 3 * (i : Int) + 1, (k : Int) + 3 * (i : Int) + 1 + 1⟩
def mksA3 (k : Nat) (l : List A3) (i : Nat) : List A3 := (List.range i).map (mkA3 k) ++ l.drop i
theorem mksA3_zero (k : Nat) (l : List A3) : mksA3 k l 0 = l := by simp [mksA3]
theorem mksA3_len {k : Nat} {l : List A3} {n i : Nat} (h : l.length = n) (hi : i ≤ n) : (mksA3 k l i).length = n := by simp [mksA3]; omega
theorem mksA3_set {k : Nat} {l : List A3} {n i : Nat} (h : l.length = n) (hi : i < n) : (mksA3 k l i).set i (mkA3 k i) = mksA3 k l (i + 1) := by
  unfold mksA3
  rw [List.set_append_right _ _ (by simp), List.range_succ, List.map_append, List.append_assoc]
  have e : i - ((List.range i).map (mkA3 k)).length = 0 := by simp
  rw [e, List.drop_eq_getElem_cons (by omega)]
  rfl
def markedA3 (k n : Nat) : List A3 := (List.range n).map (mkA3 k)
theorem mksA3_all {k : Nat} {l : List A3} {n : Nat} (h : l.length = n) : mksA3 k l n = markedA3 k n := by simp [mksA3, markedA3, ← h]
theorem markedA3_len (k n : Nat) : (markedA3 k n).length = n := by simp [markedA3]
theorem markedA3_at {k n i : Nat} (h : i < n) : (markedA3 k n)[i]? = some (mkA3 k i) := by simp [markedA3, h]

set_option maxRecDepth 100000 in
set_option maxHeartbeats 4000000 in
theorem mark_rowsA3 (l : List A3) (v : Value) (B k0 n : Nat) (w : World) (hn : l.length = n) (hl : k0 + 3 * n ≤ 1000000000) (hB : B ≤ w.heap.size) (ho : OwnA3 w B v l) :
    Calls Try.prog 32 #[v, .int .i64 k0] w fun e w' => e = .returned (.int .i64 (k0 + 3 * n : Nat)) ∧ OwnA3 w' B v (markedA3 k0 n) ∧ w.grownBy w' v.ownBlock := by
  obtain ⟨p, c, rfl, hc, hr, hp⟩ := ho.form
  rw [hn] at ho hp ⊢
  have HN := Lib.hid hn
  have HP := Lib.hid hp
  have HO := Lib.hid ho
  clear hn hr ho hc hp
  go_enter Try.func32, Try.ntmps32
  go_wp2_with fail
  go_loopw [1, 5, 6] (fun q i _ wr => ∃ k : Nat, k ≤ n ∧ i = .int .i64 k ∧ q = .int .i64 (k0 + 3 * k : Nat) ∧ Hid (OwnA3 wr B (.slice p n c) (mksA3 k0 l k)) ∧ Hid (w.grownBy wr (Value.slice p n c).ownBlock)) (fun _ i _ _ => n - (intOf i).toNat)
  case atStart => exact ⟨0, Nat.zero_le _, rfl, rfl, by rw [mksA3_zero]; exact HO, World.grownBy.refl _ _⟩
  case round =>
    clear HO
    obtain ⟨k, hk, rfl, rfl, HO, HB⟩ := hrel
    by_cases hlt : k < n
    · obtain ⟨g, rfl, _⟩ := HP.out (by omega)
      obtain ⟨y, hy, d0, d1, d2, hf, hg1, hg2⟩ := HO.out.slots (mksA3_len HN.out hk) k hlt
      have b0 : (0 : Int) ≤ (k : Int) := by omega
      have b1 : (k : Int) < (n : Int) := by omega
      have HS := HO.out.store (mksA3_len HN.out hk) k hlt (mkA3 k0 k)
      rw [mksA3_set HN.out hlt] at HS
      have HS := Lib.hid HS
      clear hy HO
      go_wp2_with fail
      refine wp_loop_rounds 4 ?_
      repeat (rw [rounds_succ]; go_wp2_with fail)
      exact ⟨⟨k + 1, by omega, by go_num, by go_num, HS, (grown_set (grown_set (grown_set HB.out _ _) _ _) _ _)⟩, by simp [intOf]; omega⟩
    · obtain rfl : k = n := by omega
      rw [mksA3_all HN.out] at HO
      go_wp2_with fail
      go_ret
      exact ⟨rfl, HO.out, HB.out⟩

set_option maxRecDepth 100000 in
set_option maxHeartbeats 4000000 in
theorem held_rowsA3 (v : Value) (B k0 n : Nat) (w : World) (hl : k0 + 3 * n ≤ 1000000000) (ho : OwnA3 w B v (markedA3 k0 n)) :
    Calls Try.prog 33 #[v, .int .i64 k0] w fun e w' => e = .returned (.int .i64 (k0 + 3 * n : Nat)) ∧ Below w.heap.size w w' := by
  obtain ⟨p, c, rfl, hc, hr, hp⟩ := ho.form
  rw [markedA3_len] at ho hp ⊢
  have HR := Lib.hid hr
  clear hr ho hc hp
  go_enter Try.func33, Try.ntmps33
  go_wp2_with fail
  go_loopw [1, 5, 6] (fun q i _ wr => ∃ k : Nat, k ≤ n ∧ i = .int .i64 k ∧ q = .int .i64 (k0 + 3 * k : Nat) ∧ Hid (Below w.heap.size w wr)) (fun _ i _ _ => n - (intOf i).toNat)
  case atStart => exact ⟨0, Nat.zero_le _, rfl, rfl, Below.refl _ _⟩
  case round =>
    obtain ⟨k, hk, rfl, rfl, HB⟩ := hrel
    by_cases hlt : k < n
    · obtain ⟨b, o, x, rfl, hb, hx, d0, d1, d2⟩ := (HR.out.below HB.out).aA3 (k := k) (by rw [markedA3_len]; exact hlt)
      obtain rfl : mkA3 k0 k = x := by rw [markedA3_at hlt] at hx; injection hx
      simp only [mkA3] at d0 d1 d2
      have b0 : (0 : Int) ≤ (k : Int) := by omega
      have b1 : (k : Int) < (n : Int) := by omega
      clear hx
      go_wp2_with fail
      refine wp_loop_rounds 4 ?_
      repeat (rw [rounds_succ]; go_wp2_with fail)
      exact ⟨⟨k + 1, by omega, by go_num, by go_num, HB⟩, by simp [intOf]; omega⟩
    · obtain rfl : k = n := by omega
      go_wp2_with fail
      go_ret
      exact ⟨rfl, HB.out⟩
end Go.Proofs.Ytjmlefcmhjodeaa.cards

