/- Cards: lines and their kinds, in how many traits two cards differ: the program and the model alike. -/
import Derived.Test.YtkmkochganknmaaC3
import Derived.StillTailTactics
import Derived.Laws.EntriesVeiled
namespace Go.Proofs.Ytkmkochganknmaa.cards
open Go.RowKit
set_option linter.unusedVariables false

def sameQ (a b c : Int) : Bool := decide (a = b ∧ a = c)
def difQ (a b c : Int) : Bool := decide (a ≠ b ∧ a ≠ c ∧ b ≠ c)
/-- A number of a trait. -/
def small (a : Int) : Prop := 0 ≤ a ∧ a ≤ 2
def lits3 (a b c : Int) : List Lit := [.int .i64 a, .int .i64 b, .int .i64 c]
theorem key_lits3 (a b c : Int) (ha : small a) (hb : small b) (hc : small c) : (Try.prog).keyLits 3 56 (Value.agg #[.int .i64 a, .int .i64 b, .int .i64 c]).cells.toList = some (lits3 a b c) := by
  have w1 := wf_small ha.1 (by have := ha.2; omega)
  have w2 := wf_small hb.1 (by have := hb.2; omega)
  have w3 := wf_small hc.1 (by have := hc.2; omega)
  have ce : (Try.prog).cellsOf 3 = 1 := by kernel_rfl
  have ct : (Try.prog).cellsOf 56 = 3 := by kernel_rfl
  simp [Program.keyLits, Try.underlying56, Try.underlying3, Value.cells, ce, ct, w1, w2, w3, show List.range 3 = [0, 1, 2] from rfl, lits3]
theorem eq_run3 (a b c : Int) (ha : small a) (hb : small b) (hc : small c) (w : World) : (Op.equalIn 10000 56 (.agg #[.int .i64 a, .int .i64 b, .int .i64 c]) (.agg #[.int .i64 a, .int .i64 a, .int .i64 a])).run Try.prog w = .ok (sameQ a b c) w := by
  obtain ⟨r, hr, hi⟩ := run_equalIn_deep (P := Try.prog) 9998 2 56 (by kernel_rfl) w 3 3 _ _ (lits3 a b c) (lits3 a a a) (by kernel_rfl) (by kernel_rfl) (key_lits3 a b c ha hb hc) (key_lits3 a a a ha ha ha)
  have e : r = sameQ a b c := by
    rw [Bool.eq_iff_iff, hi]
    simp [lits3, sameQ]
    omega
  rw [← e]
  exact hr
set_option maxRecDepth 100000 in
set_option maxHeartbeats 1000000 in
theorem same_any (a b c : Int) (w : World) (ha : small a) (hb : small b) (hc : small c) :
    Calls Try.prog 48 #[.agg #[.int .i64 a, .int .i64 b, .int .i64 c]] w fun e w' => e = .returned (.bool (sameQ a b c)) ∧ Below w.heap.size w w' := by
  have he := eq_run3 a b c ha hb hc
  clear ha hb hc
  go_enter Try.func48, Try.ntmps48
  go_wp2_with fail
  go_ret
  exact ⟨rfl, by repeat (first | with_reducible exact Below.refl _ _ | with_reducible exact HB.out | with_reducible apply Below.drew | with_reducible apply bdN | with_reducible refine Below.alloc ?_ (by first | exact Nat.le_refl _ | with_reducible exact HB.out.size | omega | (simp; done) | (simp; omega) | (have := HB.out.size; simp at *; omega)) _ | with_reducible refine Below.setCell ?_ (by first | exact Nat.le_refl _ | with_reducible exact HB.out.size | omega | (simp; done) | (simp; omega) | (have := HB.out.size; simp at *; omega)) _)⟩
set_option maxRecDepth 100000 in
set_option maxHeartbeats 1000000 in
theorem dif_any (a b c : Int) (w : World) :
    Calls Try.prog 33 #[.agg #[.int .i64 a, .int .i64 b, .int .i64 c]] w fun e w' => e = .returned (.bool (difQ a b c)) ∧ Below w.heap.size w w' := by
  go_enter Try.func33, Try.ntmps33
  go_wp2_with fail
  all_goals go_ret
  all_goals exact ⟨ret_bool (by unfold difQ; rw [Bool.eq_iff_iff]; simp; omega), by repeat (first | with_reducible exact Below.refl _ _ | with_reducible exact HB.out | with_reducible apply Below.drew | with_reducible apply bdN | with_reducible refine Below.alloc ?_ (by first | exact Nat.le_refl _ | with_reducible exact HB.out.size | omega | (simp; done) | (simp; omega) | (have := HB.out.size; simp at *; omega)) _ | with_reducible refine Below.setCell ?_ (by first | exact Nat.le_refl _ | with_reducible exact HB.out.size | omega | (simp; done) | (simp; omega) | (have := HB.out.size; simp at *; omega)) _)⟩

/-- In how many traits three cards answer a question. -/
def cnt (q : Int → Int → Int → Bool) (x y z : Cd) : Int := one (q x.a y.a z.a) + one (q x.b y.b z.b) + one (q x.c y.c z.c) + one (q x.d y.d z.d)
def tr (x : Cd) : Nat → Int
  | 0 => x.a
  | 1 => x.b
  | 2 => x.c
  | _ => x.d
def cntK (q : Int → Int → Int → Bool) (x y z : Cd) : Nat → Int
  | 0 => 0
  | k + 1 => cntK q x y z k + one (q (tr x k) (tr y k) (tr z k))
theorem one_bd (b : Bool) : 0 ≤ one b ∧ one b ≤ 1 := by cases b <;> simp [one]
theorem cntK_bd (q : Int → Int → Int → Bool) (x y z : Cd) : ∀ k : Nat, 0 ≤ cntK q x y z k ∧ cntK q x y z k ≤ k
  | 0 => by simp [cntK]
  | k + 1 => by
    have := cntK_bd q x y z k
    have := one_bd (q (tr x k) (tr y k) (tr z k))
    simp only [cntK]; omega
theorem cntK_lo (q : Int → Int → Int → Bool) (x y z : Cd) (k : Nat) : 0 ≤ cntK q x y z k := (cntK_bd q x y z k).1
theorem cntK_hi (q : Int → Int → Int → Bool) (x y z : Cd) (k : Nat) : cntK q x y z k ≤ k := (cntK_bd q x y z k).2
theorem cntK_succ (q : Int → Int → Int → Bool) (x y z : Cd) (k : Nat) : cntK q x y z (k + 1) = cntK q x y z k + one (q (tr x k) (tr y k) (tr z k)) := rfl
theorem cntK_four (q : Int → Int → Int → Bool) (x y z : Cd) : cntK q x y z 4 = cnt q x y z := by simp [cntK, cnt, tr]
theorem small_of {x : Cd} (h : x.ok = true) : small x.a ∧ small x.b ∧ small x.c ∧ small x.d := Cd.bd h

set_option maxRecDepth 100000 in
set_option maxHeartbeats 4000000 in
theorem count_dif (x y z : Cd) (w : World) (hx : x.ok = true) (hy : y.ok = true) (hz : z.ok = true) :
    Calls Try.prog 32 #[x.val, y.val, z.val, .func (.func 33) #[] #[]] w fun e w' => e = .returned (.int .i64 (cnt difQ x y z)) ∧ Below w.heap.size w w' := by
  have HX := Lib.hid hx
  have HY := Lib.hid hy
  have HZ := Lib.hid hz
  clear hx hy hz
  go_enter Try.func32, Try.ntmps32
  go_wp2_with fail
  go_loopw [9, 10, 11] (fun n _ i wr => ∃ k : Nat, k ≤ 4 ∧ i = .int .i64 k ∧ n = .int .i64 (cntK difQ x y z k) ∧ Hid (Below w.heap.size w wr) ∧ Hid (Box wr w.heap.size x) ∧ Hid (Box wr (w.heap.size + 1) y) ∧ Hid (Box wr (w.heap.size + 1 + 1) z)) (fun _ _ i _ => 4 - (intOf i).toNat)
  case atStart => exact ⟨0, by omega, rfl, rfl, Lib.hid (by repeat (first | with_reducible exact Below.refl _ _ | with_reducible exact HB.out | with_reducible apply Below.drew | with_reducible apply bdN | with_reducible refine Below.alloc ?_ (by first | exact Nat.le_refl _ | with_reducible exact HB.out.size | omega | (simp; done) | (simp; omega) | (have := HB.out.size; simp at *; omega)) _ | with_reducible refine Below.setCell ?_ (by first | exact Nat.le_refl _ | with_reducible exact HB.out.size | omega | (simp; done) | (simp; omega) | (have := HB.out.size; simp at *; omega)) _)), Lib.hid (by repeat (first | with_reducible exact HB.out | with_reducible apply Box.drewN | with_reducible apply Box.drew | (with_reducible refine Box.newAt ?_ ?_ <;> first | (simp; done) | rfl) | with_reducible apply Box.alloc)), Lib.hid (by repeat (first | with_reducible exact HB.out | with_reducible apply Box.drewN | with_reducible apply Box.drew | (with_reducible refine Box.newAt ?_ ?_ <;> first | (simp; done) | rfl) | with_reducible apply Box.alloc)), Lib.hid (by repeat (first | with_reducible exact HB.out | with_reducible apply Box.drewN | with_reducible apply Box.drew | (with_reducible refine Box.newAt ?_ ?_ <;> first | (simp; done) | rfl) | with_reducible apply Box.alloc))⟩
  case round =>
    obtain ⟨k, hk, rfl, rfl, HB, K0, K1, K2⟩ := hrel
    obtain ⟨k0a, k0b, k0c, k0d⟩ := K0.out.cell
    obtain ⟨k1a, k1b, k1c, k1d⟩ := K1.out.cell
    obtain ⟨k2a, k2b, k2c, k2d⟩ := K2.out.cell
    have n0 := cntK_lo difQ x y z k
    have n1 := cntK_hi difQ x y z k
    obtain ⟨k1, HK, HS⟩ : ∃ k1, Hid (k1 = k + 1) ∧ Hid (cntK difQ x y z k1 = cntK difQ x y z k + one (difQ (tr x k) (tr y k) (tr z k))) := ⟨_, rfl, rfl⟩
    rcases (show k = 0 ∨ k = 1 ∨ k = 2 ∨ k = 3 ∨ k = 4 by omega) with rfl | rfl | rfl | rfl | rfl
    iterate 4
      · go_wp2_with fail
        have qk0a := fun d os => cell_regrown k0a d os
        have qk0b := fun d os => cell_regrown k0b d os
        have qk0c := fun d os => cell_regrown k0c d os
        have qk0d := fun d os => cell_regrown k0d d os
        have qk1a := fun d os => cell_regrown k1a d os
        have qk1b := fun d os => cell_regrown k1b d os
        have qk1c := fun d os => cell_regrown k1c d os
        have qk1d := fun d os => cell_regrown k1d d os
        have qk2a := fun d os => cell_regrown k2a d os
        have qk2b := fun d os => cell_regrown k2b d os
        have qk2c := fun d os => cell_regrown k2c d os
        have qk2d := fun d os => cell_regrown k2d d os
        refine wp_region_quiet_below (by kernel_rfl) (by kernel_rfl) ?_
        repeat (first | go_big_quiet_step ((go_at_call 33; exact Calls.regrown_of (dif_any _ _ _ _))) | quiet_step ((go_at_call 33; exact Calls.regrown_of (dif_any _ _ _ _))))
        refine wpQuiet_nil ?_
        intro w2 hw2
        have b : Below wr.heap.size wr w2 := by obtain ⟨r, hr⟩ := hw2; rw [hr]; exact below_regrown _ _ _
        clear hw2 qk0a qk0b qk0c qk0d qk1a qk1b qk1c qk1d qk2a qk2b qk2c qk2d
        have Sw2 := Lib.hid b.size
        have HB := Lib.hid (chain0 (w := w) (by repeat (first | with_reducible exact Below.refl _ _ | with_reducible exact HB.out | with_reducible apply Below.drew | with_reducible apply bdN | with_reducible refine Below.alloc ?_ (by first | exact Nat.le_refl _ | with_reducible exact HB.out.size | omega | (simp; done) | (simp; omega) | (have := HB.out.size; simp at *; omega)) _ | with_reducible refine Below.setCell ?_ (by first | exact Nat.le_refl _ | with_reducible exact HB.out.size | omega | (simp; done) | (simp; omega) | (have := HB.out.size; simp at *; omega)) _)) b)
        have K0 : Hid (Box _ (w.heap.size) (x)) := Lib.hid (Box.below (by repeat (first | with_reducible exact K0.out | with_reducible apply Box.drewN | with_reducible apply Box.drew | (with_reducible refine Box.newAt ?_ ?_ <;> first | (simp; done) | rfl) | with_reducible apply Box.alloc)) b)
        have K1 : Hid (Box _ (w.heap.size + 1) (y)) := Lib.hid (Box.below (by repeat (first | with_reducible exact K1.out | with_reducible apply Box.drewN | with_reducible apply Box.drew | (with_reducible refine Box.newAt ?_ ?_ <;> first | (simp; done) | rfl) | with_reducible apply Box.alloc)) b)
        have K2 : Hid (Box _ (w.heap.size + 1 + 1) (z)) := Lib.hid (Box.below (by repeat (first | with_reducible exact K2.out | with_reducible apply Box.drewN | with_reducible apply Box.drew | (with_reducible refine Box.newAt ?_ ?_ <;> first | (simp; done) | rfl) | with_reducible apply Box.alloc)) b)
        try clear k0a k0b k0c k0d k0z
        have k0z := K0.out.lt
        obtain ⟨k0a, k0b, k0c, k0d⟩ := K0.out.cell
        try clear k1a k1b k1c k1d k1z
        have k1z := K1.out.lt
        obtain ⟨k1a, k1b, k1c, k1d⟩ := K1.out.cell
        try clear k2a k2b k2c k2d k2z
        have k2z := K2.out.lt
        obtain ⟨k2a, k2b, k2c, k2d⟩ := K2.out.cell
        clear b
        go_wp2_with fail
        all_goals go_roundw
        · refine ⟨k1, by have := HK.out; omega, by rw [HK.out]; rfl, ?_, HB, K0, K1, K2⟩
          rw [HS.out]
          simp [tr, one, *]
        · simp [intOf]
        · refine ⟨k1, by have := HK.out; omega, by rw [HK.out]; rfl, ?_, HB, K0, K1, K2⟩
          rw [HS.out]
          simp [tr, one, *]
        · simp [intOf]
    · go_wp2_with fail
      go_ret
      exact ⟨ret_int (cntK_four _ _ _ _), HB.out⟩
set_option maxRecDepth 100000 in
set_option maxHeartbeats 4000000 in
theorem count_same (x y z : Cd) (w : World) (hx : x.ok = true) (hy : y.ok = true) (hz : z.ok = true) :
    Calls Try.prog 32 #[x.val, y.val, z.val, .func (.func 48) #[] #[]] w fun e w' => e = .returned (.int .i64 (cnt sameQ x y z)) ∧ Below w.heap.size w w' := by
  have HX := Lib.hid hx
  have HY := Lib.hid hy
  have HZ := Lib.hid hz
  clear hx hy hz
  go_enter Try.func32, Try.ntmps32
  go_wp2_with fail
  go_loopw [9, 10, 11] (fun n _ i wr => ∃ k : Nat, k ≤ 4 ∧ i = .int .i64 k ∧ n = .int .i64 (cntK sameQ x y z k) ∧ Hid (Below w.heap.size w wr) ∧ Hid (Box wr w.heap.size x) ∧ Hid (Box wr (w.heap.size + 1) y) ∧ Hid (Box wr (w.heap.size + 1 + 1) z)) (fun _ _ i _ => 4 - (intOf i).toNat)
  case atStart => exact ⟨0, by omega, rfl, rfl, Lib.hid (by repeat (first | with_reducible exact Below.refl _ _ | with_reducible exact HB.out | with_reducible apply Below.drew | with_reducible apply bdN | with_reducible refine Below.alloc ?_ (by first | exact Nat.le_refl _ | with_reducible exact HB.out.size | omega | (simp; done) | (simp; omega) | (have := HB.out.size; simp at *; omega)) _ | with_reducible refine Below.setCell ?_ (by first | exact Nat.le_refl _ | with_reducible exact HB.out.size | omega | (simp; done) | (simp; omega) | (have := HB.out.size; simp at *; omega)) _)), Lib.hid (by repeat (first | with_reducible exact HB.out | with_reducible apply Box.drewN | with_reducible apply Box.drew | (with_reducible refine Box.newAt ?_ ?_ <;> first | (simp; done) | rfl) | with_reducible apply Box.alloc)), Lib.hid (by repeat (first | with_reducible exact HB.out | with_reducible apply Box.drewN | with_reducible apply Box.drew | (with_reducible refine Box.newAt ?_ ?_ <;> first | (simp; done) | rfl) | with_reducible apply Box.alloc)), Lib.hid (by repeat (first | with_reducible exact HB.out | with_reducible apply Box.drewN | with_reducible apply Box.drew | (with_reducible refine Box.newAt ?_ ?_ <;> first | (simp; done) | rfl) | with_reducible apply Box.alloc))⟩
  case round =>
    obtain ⟨k, hk, rfl, rfl, HB, K0, K1, K2⟩ := hrel
    obtain ⟨k0a, k0b, k0c, k0d⟩ := K0.out.cell
    obtain ⟨k1a, k1b, k1c, k1d⟩ := K1.out.cell
    obtain ⟨k2a, k2b, k2c, k2d⟩ := K2.out.cell
    have n0 := cntK_lo sameQ x y z k
    have n1 := cntK_hi sameQ x y z k
    obtain ⟨k1, HK, HS⟩ : ∃ k1, Hid (k1 = k + 1) ∧ Hid (cntK sameQ x y z k1 = cntK sameQ x y z k + one (sameQ (tr x k) (tr y k) (tr z k))) := ⟨_, rfl, rfl⟩
    rcases (show k = 0 ∨ k = 1 ∨ k = 2 ∨ k = 3 ∨ k = 4 by omega) with rfl | rfl | rfl | rfl | rfl
    · go_wp2_with fail
      have qk0a := fun d os => cell_regrown k0a d os
      have qk0b := fun d os => cell_regrown k0b d os
      have qk0c := fun d os => cell_regrown k0c d os
      have qk0d := fun d os => cell_regrown k0d d os
      have qk1a := fun d os => cell_regrown k1a d os
      have qk1b := fun d os => cell_regrown k1b d os
      have qk1c := fun d os => cell_regrown k1c d os
      have qk1d := fun d os => cell_regrown k1d d os
      have qk2a := fun d os => cell_regrown k2a d os
      have qk2b := fun d os => cell_regrown k2b d os
      have qk2c := fun d os => cell_regrown k2c d os
      have qk2d := fun d os => cell_regrown k2d d os
      refine wp_region_quiet_below (by kernel_rfl) (by kernel_rfl) ?_
      repeat (first | go_big_quiet_step ((go_at_call 48; exact Calls.regrown_of (same_any _ _ _ _ (small_of HX.out).1 (small_of HY.out).1 (small_of HZ.out).1))) | quiet_step ((go_at_call 48; exact Calls.regrown_of (same_any _ _ _ _ (small_of HX.out).1 (small_of HY.out).1 (small_of HZ.out).1))))
      refine wpQuiet_nil ?_
      intro w2 hw2
      have b : Below wr.heap.size wr w2 := by obtain ⟨r, hr⟩ := hw2; rw [hr]; exact below_regrown _ _ _
      clear hw2 qk0a qk0b qk0c qk0d qk1a qk1b qk1c qk1d qk2a qk2b qk2c qk2d
      have Sw2 := Lib.hid b.size
      have HB := Lib.hid (chain0 (w := w) (by repeat (first | with_reducible exact Below.refl _ _ | with_reducible exact HB.out | with_reducible apply Below.drew | with_reducible apply bdN | with_reducible refine Below.alloc ?_ (by first | exact Nat.le_refl _ | with_reducible exact HB.out.size | omega | (simp; done) | (simp; omega) | (have := HB.out.size; simp at *; omega)) _ | with_reducible refine Below.setCell ?_ (by first | exact Nat.le_refl _ | with_reducible exact HB.out.size | omega | (simp; done) | (simp; omega) | (have := HB.out.size; simp at *; omega)) _)) b)
      have K0 : Hid (Box _ (w.heap.size) (x)) := Lib.hid (Box.below (by repeat (first | with_reducible exact K0.out | with_reducible apply Box.drewN | with_reducible apply Box.drew | (with_reducible refine Box.newAt ?_ ?_ <;> first | (simp; done) | rfl) | with_reducible apply Box.alloc)) b)
      have K1 : Hid (Box _ (w.heap.size + 1) (y)) := Lib.hid (Box.below (by repeat (first | with_reducible exact K1.out | with_reducible apply Box.drewN | with_reducible apply Box.drew | (with_reducible refine Box.newAt ?_ ?_ <;> first | (simp; done) | rfl) | with_reducible apply Box.alloc)) b)
      have K2 : Hid (Box _ (w.heap.size + 1 + 1) (z)) := Lib.hid (Box.below (by repeat (first | with_reducible exact K2.out | with_reducible apply Box.drewN | with_reducible apply Box.drew | (with_reducible refine Box.newAt ?_ ?_ <;> first | (simp; done) | rfl) | with_reducible apply Box.alloc)) b)
      try clear k0a k0b k0c k0d k0z
      have k0z := K0.out.lt
      obtain ⟨k0a, k0b, k0c, k0d⟩ := K0.out.cell
      try clear k1a k1b k1c k1d k1z
      have k1z := K1.out.lt
      obtain ⟨k1a, k1b, k1c, k1d⟩ := K1.out.cell
      try clear k2a k2b k2c k2d k2z
      have k2z := K2.out.lt
      obtain ⟨k2a, k2b, k2c, k2d⟩ := K2.out.cell
      clear b
      go_wp2_with fail
      all_goals go_roundw
      · refine ⟨k1, by have := HK.out; omega, by rw [HK.out]; rfl, ?_, HB, K0, K1, K2⟩
        rw [HS.out]
        simp [tr, one, *]
      · simp [intOf]
      · refine ⟨k1, by have := HK.out; omega, by rw [HK.out]; rfl, ?_, HB, K0, K1, K2⟩
        rw [HS.out]
        simp [tr, one, *]
      · simp [intOf]
    · go_wp2_with fail
      have qk0a := fun d os => cell_regrown k0a d os
      have qk0b := fun d os => cell_regrown k0b d os
      have qk0c := fun d os => cell_regrown k0c d os
      have qk0d := fun d os => cell_regrown k0d d os
      have qk1a := fun d os => cell_regrown k1a d os
      have qk1b := fun d os => cell_regrown k1b d os
      have qk1c := fun d os => cell_regrown k1c d os
      have qk1d := fun d os => cell_regrown k1d d os
      have qk2a := fun d os => cell_regrown k2a d os
      have qk2b := fun d os => cell_regrown k2b d os
      have qk2c := fun d os => cell_regrown k2c d os
      have qk2d := fun d os => cell_regrown k2d d os
      refine wp_region_quiet_below (by kernel_rfl) (by kernel_rfl) ?_
      repeat (first | go_big_quiet_step ((go_at_call 48; exact Calls.regrown_of (same_any _ _ _ _ (small_of HX.out).2.1 (small_of HY.out).2.1 (small_of HZ.out).2.1))) | quiet_step ((go_at_call 48; exact Calls.regrown_of (same_any _ _ _ _ (small_of HX.out).2.1 (small_of HY.out).2.1 (small_of HZ.out).2.1))))
      refine wpQuiet_nil ?_
      intro w2 hw2
      have b : Below wr.heap.size wr w2 := by obtain ⟨r, hr⟩ := hw2; rw [hr]; exact below_regrown _ _ _
      clear hw2 qk0a qk0b qk0c qk0d qk1a qk1b qk1c qk1d qk2a qk2b qk2c qk2d
      have Sw2 := Lib.hid b.size
      have HB := Lib.hid (chain0 (w := w) (by repeat (first | with_reducible exact Below.refl _ _ | with_reducible exact HB.out | with_reducible apply Below.drew | with_reducible apply bdN | with_reducible refine Below.alloc ?_ (by first | exact Nat.le_refl _ | with_reducible exact HB.out.size | omega | (simp; done) | (simp; omega) | (have := HB.out.size; simp at *; omega)) _ | with_reducible refine Below.setCell ?_ (by first | exact Nat.le_refl _ | with_reducible exact HB.out.size | omega | (simp; done) | (simp; omega) | (have := HB.out.size; simp at *; omega)) _)) b)
      have K0 : Hid (Box _ (w.heap.size) (x)) := Lib.hid (Box.below (by repeat (first | with_reducible exact K0.out | with_reducible apply Box.drewN | with_reducible apply Box.drew | (with_reducible refine Box.newAt ?_ ?_ <;> first | (simp; done) | rfl) | with_reducible apply Box.alloc)) b)
      have K1 : Hid (Box _ (w.heap.size + 1) (y)) := Lib.hid (Box.below (by repeat (first | with_reducible exact K1.out | with_reducible apply Box.drewN | with_reducible apply Box.drew | (with_reducible refine Box.newAt ?_ ?_ <;> first | (simp; done) | rfl) | with_reducible apply Box.alloc)) b)
      have K2 : Hid (Box _ (w.heap.size + 1 + 1) (z)) := Lib.hid (Box.below (by repeat (first | with_reducible exact K2.out | with_reducible apply Box.drewN | with_reducible apply Box.drew | (with_reducible refine Box.newAt ?_ ?_ <;> first | (simp; done) | rfl) | with_reducible apply Box.alloc)) b)
      try clear k0a k0b k0c k0d k0z
      have k0z := K0.out.lt
      obtain ⟨k0a, k0b, k0c, k0d⟩ := K0.out.cell
      try clear k1a k1b k1c k1d k1z
      have k1z := K1.out.lt
      obtain ⟨k1a, k1b, k1c, k1d⟩ := K1.out.cell
      try clear k2a k2b k2c k2d k2z
      have k2z := K2.out.lt
      obtain ⟨k2a, k2b, k2c, k2d⟩ := K2.out.cell
      clear b
      go_wp2_with fail
      all_goals go_roundw
      · refine ⟨k1, by have := HK.out; omega, by rw [HK.out]; rfl, ?_, HB, K0, K1, K2⟩
        rw [HS.out]
        simp [tr, one, *]
      · simp [intOf]
      · refine ⟨k1, by have := HK.out; omega, by rw [HK.out]; rfl, ?_, HB, K0, K1, K2⟩
        rw [HS.out]
        simp [tr, one, *]
      · simp [intOf]
    · go_wp2_with fail
      have qk0a := fun d os => cell_regrown k0a d os
      have qk0b := fun d os => cell_regrown k0b d os
      have qk0c := fun d os => cell_regrown k0c d os
      have qk0d := fun d os => cell_regrown k0d d os
      have qk1a := fun d os => cell_regrown k1a d os
      have qk1b := fun d os => cell_regrown k1b d os
      have qk1c := fun d os => cell_regrown k1c d os
      have qk1d := fun d os => cell_regrown k1d d os
      have qk2a := fun d os => cell_regrown k2a d os
      have qk2b := fun d os => cell_regrown k2b d os
      have qk2c := fun d os => cell_regrown k2c d os
      have qk2d := fun d os => cell_regrown k2d d os
      refine wp_region_quiet_below (by kernel_rfl) (by kernel_rfl) ?_
      repeat (first | go_big_quiet_step ((go_at_call 48; exact Calls.regrown_of (same_any _ _ _ _ (small_of HX.out).2.2.1 (small_of HY.out).2.2.1 (small_of HZ.out).2.2.1))) | quiet_step ((go_at_call 48; exact Calls.regrown_of (same_any _ _ _ _ (small_of HX.out).2.2.1 (small_of HY.out).2.2.1 (small_of HZ.out).2.2.1))))
      refine wpQuiet_nil ?_
      intro w2 hw2
      have b : Below wr.heap.size wr w2 := by obtain ⟨r, hr⟩ := hw2; rw [hr]; exact below_regrown _ _ _
      clear hw2 qk0a qk0b qk0c qk0d qk1a qk1b qk1c qk1d qk2a qk2b qk2c qk2d
      have Sw2 := Lib.hid b.size
      have HB := Lib.hid (chain0 (w := w) (by repeat (first | with_reducible exact Below.refl _ _ | with_reducible exact HB.out | with_reducible apply Below.drew | with_reducible apply bdN | with_reducible refine Below.alloc ?_ (by first | exact Nat.le_refl _ | with_reducible exact HB.out.size | omega | (simp; done) | (simp; omega) | (have := HB.out.size; simp at *; omega)) _ | with_reducible refine Below.setCell ?_ (by first | exact Nat.le_refl _ | with_reducible exact HB.out.size | omega | (simp; done) | (simp; omega) | (have := HB.out.size; simp at *; omega)) _)) b)
      have K0 : Hid (Box _ (w.heap.size) (x)) := Lib.hid (Box.below (by repeat (first | with_reducible exact K0.out | with_reducible apply Box.drewN | with_reducible apply Box.drew | (with_reducible refine Box.newAt ?_ ?_ <;> first | (simp; done) | rfl) | with_reducible apply Box.alloc)) b)
      have K1 : Hid (Box _ (w.heap.size + 1) (y)) := Lib.hid (Box.below (by repeat (first | with_reducible exact K1.out | with_reducible apply Box.drewN | with_reducible apply Box.drew | (with_reducible refine Box.newAt ?_ ?_ <;> first | (simp; done) | rfl) | with_reducible apply Box.alloc)) b)
      have K2 : Hid (Box _ (w.heap.size + 1 + 1) (z)) := Lib.hid (Box.below (by repeat (first | with_reducible exact K2.out | with_reducible apply Box.drewN | with_reducible apply Box.drew | (with_reducible refine Box.newAt ?_ ?_ <;> first | (simp; done) | rfl) | with_reducible apply Box.alloc)) b)
      try clear k0a k0b k0c k0d k0z
      have k0z := K0.out.lt
      obtain ⟨k0a, k0b, k0c, k0d⟩ := K0.out.cell
      try clear k1a k1b k1c k1d k1z
      have k1z := K1.out.lt
      obtain ⟨k1a, k1b, k1c, k1d⟩ := K1.out.cell
      try clear k2a k2b k2c k2d k2z
      have k2z := K2.out.lt
      obtain ⟨k2a, k2b, k2c, k2d⟩ := K2.out.cell
      clear b
      go_wp2_with fail
      all_goals go_roundw
      · refine ⟨k1, by have := HK.out; omega, by rw [HK.out]; rfl, ?_, HB, K0, K1, K2⟩
        rw [HS.out]
        simp [tr, one, *]
      · simp [intOf]
      · refine ⟨k1, by have := HK.out; omega, by rw [HK.out]; rfl, ?_, HB, K0, K1, K2⟩
        rw [HS.out]
        simp [tr, one, *]
      · simp [intOf]
    · go_wp2_with fail
      have qk0a := fun d os => cell_regrown k0a d os
      have qk0b := fun d os => cell_regrown k0b d os
      have qk0c := fun d os => cell_regrown k0c d os
      have qk0d := fun d os => cell_regrown k0d d os
      have qk1a := fun d os => cell_regrown k1a d os
      have qk1b := fun d os => cell_regrown k1b d os
      have qk1c := fun d os => cell_regrown k1c d os
      have qk1d := fun d os => cell_regrown k1d d os
      have qk2a := fun d os => cell_regrown k2a d os
      have qk2b := fun d os => cell_regrown k2b d os
      have qk2c := fun d os => cell_regrown k2c d os
      have qk2d := fun d os => cell_regrown k2d d os
      refine wp_region_quiet_below (by kernel_rfl) (by kernel_rfl) ?_
      repeat (first | go_big_quiet_step ((go_at_call 48; exact Calls.regrown_of (same_any _ _ _ _ (small_of HX.out).2.2.2 (small_of HY.out).2.2.2 (small_of HZ.out).2.2.2))) | quiet_step ((go_at_call 48; exact Calls.regrown_of (same_any _ _ _ _ (small_of HX.out).2.2.2 (small_of HY.out).2.2.2 (small_of HZ.out).2.2.2))))
      refine wpQuiet_nil ?_
      intro w2 hw2
      have b : Below wr.heap.size wr w2 := by obtain ⟨r, hr⟩ := hw2; rw [hr]; exact below_regrown _ _ _
      clear hw2 qk0a qk0b qk0c qk0d qk1a qk1b qk1c qk1d qk2a qk2b qk2c qk2d
      have Sw2 := Lib.hid b.size
      have HB := Lib.hid (chain0 (w := w) (by repeat (first | with_reducible exact Below.refl _ _ | with_reducible exact HB.out | with_reducible apply Below.drew | with_reducible apply bdN | with_reducible refine Below.alloc ?_ (by first | exact Nat.le_refl _ | with_reducible exact HB.out.size | omega | (simp; done) | (simp; omega) | (have := HB.out.size; simp at *; omega)) _ | with_reducible refine Below.setCell ?_ (by first | exact Nat.le_refl _ | with_reducible exact HB.out.size | omega | (simp; done) | (simp; omega) | (have := HB.out.size; simp at *; omega)) _)) b)
      have K0 : Hid (Box _ (w.heap.size) (x)) := Lib.hid (Box.below (by repeat (first | with_reducible exact K0.out | with_reducible apply Box.drewN | with_reducible apply Box.drew | (with_reducible refine Box.newAt ?_ ?_ <;> first | (simp; done) | rfl) | with_reducible apply Box.alloc)) b)
      have K1 : Hid (Box _ (w.heap.size + 1) (y)) := Lib.hid (Box.below (by repeat (first | with_reducible exact K1.out | with_reducible apply Box.drewN | with_reducible apply Box.drew | (with_reducible refine Box.newAt ?_ ?_ <;> first | (simp; done) | rfl) | with_reducible apply Box.alloc)) b)
      have K2 : Hid (Box _ (w.heap.size + 1 + 1) (z)) := Lib.hid (Box.below (by repeat (first | with_reducible exact K2.out | with_reducible apply Box.drewN | with_reducible apply Box.drew | (with_reducible refine Box.newAt ?_ ?_ <;> first | (simp; done) | rfl) | with_reducible apply Box.alloc)) b)
      try clear k0a k0b k0c k0d k0z
      have k0z := K0.out.lt
      obtain ⟨k0a, k0b, k0c, k0d⟩ := K0.out.cell
      try clear k1a k1b k1c k1d k1z
      have k1z := K1.out.lt
      obtain ⟨k1a, k1b, k1c, k1d⟩ := K1.out.cell
      try clear k2a k2b k2c k2d k2z
      have k2z := K2.out.lt
      obtain ⟨k2a, k2b, k2c, k2d⟩ := K2.out.cell
      clear b
      go_wp2_with fail
      all_goals go_roundw
      · refine ⟨k1, by have := HK.out; omega, by rw [HK.out]; rfl, ?_, HB, K0, K1, K2⟩
        rw [HS.out]
        simp [tr, one, *]
      · simp [intOf]
      · refine ⟨k1, by have := HK.out; omega, by rw [HK.out]; rfl, ?_, HB, K0, K1, K2⟩
        rw [HS.out]
        simp [tr, one, *]
      · simp [intOf]
    · go_wp2_with fail
      go_ret
      exact ⟨ret_int (cntK_four _ _ _ _), HB.out⟩

theorem one_ex {a b c : Int} (ha : small a) (hb : small b) (hc : small c) : one (sameQ a b c) + one (difQ a b c) = one (decide ((6 - a - b) % 3 = c)) := by
  unfold small at ha hb hc
  by_cases h1 : a = b ∧ a = c
  · have h2 : ¬ (a ≠ b ∧ a ≠ c ∧ b ≠ c) := by omega
    have h3 : (6 - a - b) % 3 = c := by omega
    simp only [sameQ, difQ, one, decide_eq_true_eq, if_pos h1, if_neg h2, if_pos h3]; rfl
  · by_cases h2 : a ≠ b ∧ a ≠ c ∧ b ≠ c
    · have h3 : (6 - a - b) % 3 = c := by omega
      simp only [sameQ, difQ, one, decide_eq_true_eq, if_neg h1, if_pos h2, if_pos h3]; rfl
    · have h3 : ¬ (6 - a - b) % 3 = c := by omega
      simp only [sameQ, difQ, one, decide_eq_true_eq, if_neg h1, if_neg h2, if_neg h3]; rfl
theorem fit_four {x y z : Cd} (hx : x.ok = true) (hy : y.ok = true) (hz : z.ok = true) : (cnt sameQ x y z + cnt difQ x y z == 4) = same (third x y) z := by
  obtain ⟨x1, x2, x3, x4⟩ := small_of hx
  obtain ⟨y1, y2, y3, y4⟩ := small_of hy
  obtain ⟨z1, z2, z3, z4⟩ := small_of hz
  have e1 := one_ex x1 y1 z1
  have e2 := one_ex x2 y2 z2
  have e3 := one_ex x3 y3 z3
  have e4 := one_ex x4 y4 z4
  have e : cnt sameQ x y z + cnt difQ x y z = one (decide ((6 - x.a - y.a) % 3 = z.a)) + one (decide ((6 - x.b - y.b) % 3 = z.b)) + one (decide ((6 - x.c - y.c) % 3 = z.c)) + one (decide ((6 - x.d - y.d) % 3 = z.d)) := by
    unfold cnt; omega
  rw [e, Bool.eq_iff_iff]
  simp only [same, third, beq_iff_eq, decide_eq_true_eq]
  by_cases h1 : (6 - x.a - y.a) % 3 = z.a <;> by_cases h2 : (6 - x.b - y.b) % 3 = z.b <;> by_cases h3 : (6 - x.c - y.c) % 3 = z.c <;> by_cases h4 : (6 - x.d - y.d) % 3 = z.d <;> simp [one, h1, h2, h3, h4]
theorem cnt_bd (q : Int → Int → Int → Bool) (x y z : Cd) : 0 ≤ cnt q x y z ∧ cnt q x y z ≤ 4 := by rw [← cntK_four]; exact cntK_bd q x y z 4

set_option maxRecDepth 100000 in
set_option maxHeartbeats 1000000 in
theorem line_qs (w : World) :
    Calls Try.prog 47 #[] w fun e w' => e = .returned (.agg #[.func (.func 48) #[] #[], .func (.func 33) #[] #[]]) ∧ Below w.heap.size w w' := by
  go_enter Try.func47, Try.ntmps47
  go_wp2_with fail
  exact bodyPost_ret (v := .agg #[.func (.func 48) #[] #[], .func (.func 33) #[] #[]]) (by simp [results, Try.results47, go_sem]) rfl ⟨rfl, by repeat (first | with_reducible exact Below.refl _ _ | with_reducible exact HB.out | with_reducible apply Below.drew | with_reducible apply bdN | with_reducible refine Below.alloc ?_ (by first | exact Nat.le_refl _ | with_reducible exact HB.out.size | omega | (simp; done) | (simp; omega) | (have := HB.out.size; simp at *; omega)) _ | with_reducible refine Below.setCell ?_ (by first | exact Nat.le_refl _ | with_reducible exact HB.out.size | omega | (simp; done) | (simp; omega) | (have := HB.out.size; simp at *; omega)) _)⟩

set_option maxRecDepth 100000 in
set_option maxHeartbeats 4000000 in
theorem fitting_of (x y z : Cd) (w : World) (hx : x.ok = true) (hy : y.ok = true) (hz : z.ok = true) :
    Calls Try.prog 44 #[x.val, y.val, z.val] w fun e w' => e = .returned (.int .i64 (cnt sameQ x y z + cnt difQ x y z)) ∧ Below w.heap.size w w' := by
  have HX := Lib.hid hx
  have HY := Lib.hid hy
  have HZ := Lib.hid hz
  obtain ⟨s0, s1⟩ := cnt_bd sameQ x y z
  obtain ⟨d0, d1⟩ := cnt_bd difQ x y z
  clear hx hy hz
  have i0 : ∀ w : World, (Instr.index 70 (.agg #[.func (.func 48) #[] #[], .func (.func 33) #[] #[]]) (.int .i64 0)).run Try.prog w = .ok (.func (.func 48) #[] #[]) w := fun _ => by kernel_rfl
  have i1 : ∀ w : World, (Instr.index 70 (.agg #[.func (.func 48) #[] #[], .func (.func 33) #[] #[]]) (.int .i64 1)).run Try.prog w = .ok (.func (.func 33) #[] #[]) w := fun _ => by kernel_rfl
  go_enter Try.func44, Try.ntmps44
  go_wp2_with fail
  refine ((line_qs _)).mono ?_
  rintro e w1 ⟨rfl, b⟩
  have Sw1 := Lib.hid b.size
  have HB := Lib.hid (chain0 (w := w) (by repeat (first | with_reducible exact Below.refl _ _ | with_reducible exact HB.out | with_reducible apply Below.drew | with_reducible apply bdN | with_reducible refine Below.alloc ?_ (by first | exact Nat.le_refl _ | with_reducible exact HB.out.size | omega | (simp; done) | (simp; omega) | (have := HB.out.size; simp at *; omega)) _ | with_reducible refine Below.setCell ?_ (by first | exact Nat.le_refl _ | with_reducible exact HB.out.size | omega | (simp; done) | (simp; omega) | (have := HB.out.size; simp at *; omega)) _)) b)
  have K0 : Hid (Box _ (w.heap.size) (x)) := Lib.hid (Box.below (by repeat (first | with_reducible exact K0.out | with_reducible apply Box.drewN | with_reducible apply Box.drew | (with_reducible refine Box.newAt ?_ ?_ <;> first | (simp; done) | rfl) | with_reducible apply Box.alloc)) b)
  have K1 : Hid (Box _ (w.heap.size + 1) (y)) := Lib.hid (Box.below (by repeat (first | with_reducible exact K1.out | with_reducible apply Box.drewN | with_reducible apply Box.drew | (with_reducible refine Box.newAt ?_ ?_ <;> first | (simp; done) | rfl) | with_reducible apply Box.alloc)) b)
  have K2 : Hid (Box _ (w.heap.size + 1 + 1) (z)) := Lib.hid (Box.below (by repeat (first | with_reducible exact K2.out | with_reducible apply Box.drewN | with_reducible apply Box.drew | (with_reducible refine Box.newAt ?_ ?_ <;> first | (simp; done) | rfl) | with_reducible apply Box.alloc)) b)
  try clear k0a k0b k0c k0d k0z
  have k0z := K0.out.lt
  obtain ⟨k0a, k0b, k0c, k0d⟩ := K0.out.cell
  try clear k1a k1b k1c k1d k1z
  have k1z := K1.out.lt
  obtain ⟨k1a, k1b, k1c, k1d⟩ := K1.out.cell
  try clear k2a k2b k2c k2d k2z
  have k2z := K2.out.lt
  obtain ⟨k2a, k2b, k2c, k2d⟩ := K2.out.cell
  clear b
  go_wp2_with fail
  refine wp_loop_rounds 3 ?_
  rw [rounds_succ]
  go_wp2_with fail
  refine ((count_same x y z _ HX.out HY.out HZ.out)).mono ?_
  rintro e w2 ⟨rfl, b⟩
  have Sw2 := Lib.hid b.size
  have HB := Lib.hid (chain0 (w := w) (by repeat (first | with_reducible exact Below.refl _ _ | with_reducible exact HB.out | with_reducible apply Below.drew | with_reducible apply bdN | with_reducible refine Below.alloc ?_ (by first | exact Nat.le_refl _ | with_reducible exact HB.out.size | omega | (simp; done) | (simp; omega) | (have := HB.out.size; simp at *; omega)) _ | with_reducible refine Below.setCell ?_ (by first | exact Nat.le_refl _ | with_reducible exact HB.out.size | omega | (simp; done) | (simp; omega) | (have := HB.out.size; simp at *; omega)) _)) b)
  have K0 : Hid (Box _ (w.heap.size) (x)) := Lib.hid (Box.below (by repeat (first | with_reducible exact K0.out | with_reducible apply Box.drewN | with_reducible apply Box.drew | (with_reducible refine Box.newAt ?_ ?_ <;> first | (simp; done) | rfl) | with_reducible apply Box.alloc)) b)
  have K1 : Hid (Box _ (w.heap.size + 1) (y)) := Lib.hid (Box.below (by repeat (first | with_reducible exact K1.out | with_reducible apply Box.drewN | with_reducible apply Box.drew | (with_reducible refine Box.newAt ?_ ?_ <;> first | (simp; done) | rfl) | with_reducible apply Box.alloc)) b)
  have K2 : Hid (Box _ (w.heap.size + 1 + 1) (z)) := Lib.hid (Box.below (by repeat (first | with_reducible exact K2.out | with_reducible apply Box.drewN | with_reducible apply Box.drew | (with_reducible refine Box.newAt ?_ ?_ <;> first | (simp; done) | rfl) | with_reducible apply Box.alloc)) b)
  try clear k0a k0b k0c k0d k0z
  have k0z := K0.out.lt
  obtain ⟨k0a, k0b, k0c, k0d⟩ := K0.out.cell
  try clear k1a k1b k1c k1d k1z
  have k1z := K1.out.lt
  obtain ⟨k1a, k1b, k1c, k1d⟩ := K1.out.cell
  try clear k2a k2b k2c k2d k2z
  have k2z := K2.out.lt
  obtain ⟨k2a, k2b, k2c, k2d⟩ := K2.out.cell
  clear b
  go_wp2_with fail
  rw [rounds_succ]
  go_wp2_with fail
  refine ((count_dif x y z _ HX.out HY.out HZ.out)).mono ?_
  rintro e w3 ⟨rfl, b⟩
  have Sw3 := Lib.hid b.size
  have HB := Lib.hid (chain0 (w := w) (by repeat (first | with_reducible exact Below.refl _ _ | with_reducible exact HB.out | with_reducible apply Below.drew | with_reducible apply bdN | with_reducible refine Below.alloc ?_ (by first | exact Nat.le_refl _ | with_reducible exact HB.out.size | omega | (simp; done) | (simp; omega) | (have := HB.out.size; simp at *; omega)) _ | with_reducible refine Below.setCell ?_ (by first | exact Nat.le_refl _ | with_reducible exact HB.out.size | omega | (simp; done) | (simp; omega) | (have := HB.out.size; simp at *; omega)) _)) b)
  have K0 : Hid (Box _ (w.heap.size) (x)) := Lib.hid (Box.below (by repeat (first | with_reducible exact K0.out | with_reducible apply Box.drewN | with_reducible apply Box.drew | (with_reducible refine Box.newAt ?_ ?_ <;> first | (simp; done) | rfl) | with_reducible apply Box.alloc)) b)
  have K1 : Hid (Box _ (w.heap.size + 1) (y)) := Lib.hid (Box.below (by repeat (first | with_reducible exact K1.out | with_reducible apply Box.drewN | with_reducible apply Box.drew | (with_reducible refine Box.newAt ?_ ?_ <;> first | (simp; done) | rfl) | with_reducible apply Box.alloc)) b)
  have K2 : Hid (Box _ (w.heap.size + 1 + 1) (z)) := Lib.hid (Box.below (by repeat (first | with_reducible exact K2.out | with_reducible apply Box.drewN | with_reducible apply Box.drew | (with_reducible refine Box.newAt ?_ ?_ <;> first | (simp; done) | rfl) | with_reducible apply Box.alloc)) b)
  try clear k0a k0b k0c k0d k0z
  have k0z := K0.out.lt
  obtain ⟨k0a, k0b, k0c, k0d⟩ := K0.out.cell
  try clear k1a k1b k1c k1d k1z
  have k1z := K1.out.lt
  obtain ⟨k1a, k1b, k1c, k1d⟩ := K1.out.cell
  try clear k2a k2b k2c k2d k2z
  have k2z := K2.out.lt
  obtain ⟨k2a, k2b, k2c, k2d⟩ := K2.out.cell
  clear b
  go_wp2_with fail
  rw [rounds_succ]
  go_wp2_with fail
  go_ret
  exact ⟨rfl, by repeat (first | with_reducible exact Below.refl _ _ | with_reducible exact HB.out | with_reducible apply Below.drew | with_reducible apply bdN | with_reducible refine Below.alloc ?_ (by first | exact Nat.le_refl _ | with_reducible exact HB.out.size | omega | (simp; done) | (simp; omega) | (have := HB.out.size; simp at *; omega)) _ | with_reducible refine Below.setCell ?_ (by first | exact Nat.le_refl _ | with_reducible exact HB.out.size | omega | (simp; done) | (simp; omega) | (have := HB.out.size; simp at *; omega)) _)⟩

set_option maxRecDepth 100000 in
set_option maxHeartbeats 4000000 in
theorem are_line (x y z : Cd) (w : World) (hx : x.ok = true) (hy : y.ok = true) (hz : z.ok = true) :
    Calls Try.prog 30 #[x.val, y.val, z.val] w fun e w' => e = .returned (.bool (line x y z)) ∧ Below w.heap.size w w' := by
  have HX := Lib.hid hx
  have HY := Lib.hid hy
  have HZ := Lib.hid hz
  have he := eq_run x y hx hy
  have HF := Lib.hid (fit_four hx hy hz)
  obtain ⟨s0, s1⟩ := cnt_bd sameQ x y z
  obtain ⟨d0, d1⟩ := cnt_bd difQ x y z
  clear hx hy hz
  go_enter Try.func30, Try.ntmps30
  cases hs : same x y
  · go_wp2_with fail
    refine ((fitting_of x y z _ HX.out HY.out HZ.out)).mono ?_
    rintro e w1 ⟨rfl, b⟩
    have Sw1 := Lib.hid b.size
    have HB := Lib.hid (chain0 (w := w) (by repeat (first | with_reducible exact Below.refl _ _ | with_reducible exact HB.out | with_reducible apply Below.drew | with_reducible apply bdN | with_reducible refine Below.alloc ?_ (by first | exact Nat.le_refl _ | with_reducible exact HB.out.size | omega | (simp; done) | (simp; omega) | (have := HB.out.size; simp at *; omega)) _ | with_reducible refine Below.setCell ?_ (by first | exact Nat.le_refl _ | with_reducible exact HB.out.size | omega | (simp; done) | (simp; omega) | (have := HB.out.size; simp at *; omega)) _)) b)
    have K0 : Hid (Box _ (w.heap.size) (x)) := Lib.hid (Box.below (by repeat (first | with_reducible exact K0.out | with_reducible apply Box.drewN | with_reducible apply Box.drew | (with_reducible refine Box.newAt ?_ ?_ <;> first | (simp; done) | rfl) | with_reducible apply Box.alloc)) b)
    have K1 : Hid (Box _ (w.heap.size + 1) (y)) := Lib.hid (Box.below (by repeat (first | with_reducible exact K1.out | with_reducible apply Box.drewN | with_reducible apply Box.drew | (with_reducible refine Box.newAt ?_ ?_ <;> first | (simp; done) | rfl) | with_reducible apply Box.alloc)) b)
    have K2 : Hid (Box _ (w.heap.size + 1 + 1) (z)) := Lib.hid (Box.below (by repeat (first | with_reducible exact K2.out | with_reducible apply Box.drewN | with_reducible apply Box.drew | (with_reducible refine Box.newAt ?_ ?_ <;> first | (simp; done) | rfl) | with_reducible apply Box.alloc)) b)
    try clear k0a k0b k0c k0d k0z
    have k0z := K0.out.lt
    obtain ⟨k0a, k0b, k0c, k0d⟩ := K0.out.cell
    try clear k1a k1b k1c k1d k1z
    have k1z := K1.out.lt
    obtain ⟨k1a, k1b, k1c, k1d⟩ := K1.out.cell
    try clear k2a k2b k2c k2d k2z
    have k2z := K2.out.lt
    obtain ⟨k2a, k2b, k2c, k2d⟩ := K2.out.cell
    clear b
    go_wp2_with fail
    go_ret
    exact ⟨ret_bool (by rw [HF.out]; simp [line, hs]), by repeat (first | with_reducible exact Below.refl _ _ | with_reducible exact HB.out | with_reducible apply Below.drew | with_reducible apply bdN | with_reducible refine Below.alloc ?_ (by first | exact Nat.le_refl _ | with_reducible exact HB.out.size | omega | (simp; done) | (simp; omega) | (have := HB.out.size; simp at *; omega)) _ | with_reducible refine Below.setCell ?_ (by first | exact Nat.le_refl _ | with_reducible exact HB.out.size | omega | (simp; done) | (simp; omega) | (have := HB.out.size; simp at *; omega)) _)⟩
  · go_wp2_with fail
    go_ret
    exact ⟨ret_bool (by simp [line, hs]), by repeat (first | with_reducible exact Below.refl _ _ | with_reducible exact HB.out | with_reducible apply Below.drew | with_reducible apply bdN | with_reducible refine Below.alloc ?_ (by first | exact Nat.le_refl _ | with_reducible exact HB.out.size | omega | (simp; done) | (simp; omega) | (have := HB.out.size; simp at *; omega)) _ | with_reducible refine Below.setCell ?_ (by first | exact Nat.le_refl _ | with_reducible exact HB.out.size | omega | (simp; done) | (simp; omega) | (have := HB.out.size; simp at *; omega)) _)⟩
end Go.Proofs.Ytkmkochganknmaa.cards
