/- DeckParting: the model's walk. -/
import Derived.Test.YtfbcjcfhdclklaaZ9
namespace Go.Proofs.Ytfbcjcfhdclklaa.parting
open Go.RowKit
open cards
set_option linter.unusedVariables false

theorem dpL_yes {c : Cd} {n : Nat} {k m : Int} (hk : num (plus (cdAt n) c) = k) (hm : num (plus (plus (cdAt n) c) c) = m) (h0 : (n : Int) < k) (h1 : (n : Int) < m) : dpL c (n + 1) = dpL c n ++ [⟨(n : Int), lo2 k m, hi2 k m⟩] := by
  rw [dpL, dpAt, hk, hm, if_pos ⟨h0, h1⟩]
theorem dpL_no {c : Cd} {n : Nat} {k m : Int} (hk : num (plus (cdAt n) c) = k) (hm : num (plus (plus (cdAt n) c) c) = m) (h : ¬ ((n : Int) < k ∧ (n : Int) < m)) : dpL c (n + 1) = dpL c n := by
  rw [dpL, dpAt, hk, hm, if_neg h, List.append_nil]

set_option maxRecDepth 100000 in
set_option maxHeartbeats 4000000 in
theorem spec_dp (c : Cd) (w : World) :
    Calls Try.prog 41 #[c.val] w fun e w' => ∃ u, e = .returned (.tuple #[u, .bool (dpR c).2]) ∧ OwnA3 w' w.heap.size u (dpR c).1 ∧ Below w.heap.size w w' := by
  have HO0 : Hid (OwnA3 ((w.alloc c.obj).alloc (.cells #[] 55)) w.heap.size (.slice (some ⟨w.heap.size + 1, 0, none⟩) 0 0) []) := Lib.hid (by have h := OwnA3.empty (w.alloc c.obj) w.heap.size (by simp); simpa using h)
  go_enter Try.func41, Try.ntmps41
  go_wp2_with fail
  obtain ⟨w0, ew, b⟩ : ∃ w1 : World, w1 = ((w.alloc c.obj).alloc (.cells #[] 55)) ∧ Below (((w.alloc c.obj).alloc (.cells #[] 55))).heap.size (((w.alloc c.obj).alloc (.cells #[] 55))) w1 := ⟨_, rfl, Below.refl _ _⟩
  rw [← ew]
  clear ew
  have Sw0 := Lib.hid b.size
  have HB := Lib.hid (chain0 (w := w) (by repeat (first | with_reducible exact Below.refl _ _ | with_reducible exact HB.out | with_reducible apply Below.drew | with_reducible apply bdN | with_reducible refine Below.alloc ?_ (by first | exact Nat.le_refl _ | with_reducible exact HB.out.size | omega | (simp; done) | (simp; omega) | (have := HB.out.size; simp at *; omega)) _ | with_reducible refine Below.setCell ?_ (by first | exact Nat.le_refl _ | with_reducible exact HB.out.size | omega | (simp; done) | (simp; omega) | (have := HB.out.size; simp at *; omega)) _)) b)
  have HO0 := Lib.hid (OwnA3.below (by repeat (first | with_reducible exact HO0.out | with_reducible apply OwnA3.drewN | with_reducible apply OwnA3.drew | with_reducible apply OwnA3.alloc)) b)
  have K0 : Hid (Box _ (w.heap.size) (c)) := Lib.hid (Box.below (by repeat (first | with_reducible exact K0.out | with_reducible apply Box.drewN | with_reducible apply Box.drew | (with_reducible refine Box.newAt ?_ ?_ <;> first | (simp; done) | rfl) | with_reducible apply Box.alloc)) b)
  try clear k0a k0b k0c k0d k0z
  have k0z := K0.out.lt
  obtain ⟨k0a, k0b, k0c, k0d⟩ := K0.out.cell
  clear b
  go_wp2_with fail
  refine ((l2_card c _)).mono ?_
  rintro e w1 ⟨rfl, b⟩
  have Sw1 := Lib.hid b.size
  have HB := Lib.hid (chain0 (w := w) (by repeat (first | with_reducible exact Below.refl _ _ | with_reducible exact HB.out | with_reducible apply Below.drew | with_reducible apply bdN | with_reducible refine Below.alloc ?_ (by first | exact Nat.le_refl _ | with_reducible exact HB.out.size | omega | (simp; done) | (simp; omega) | (have := HB.out.size; simp at *; omega)) _ | with_reducible refine Below.setCell ?_ (by first | exact Nat.le_refl _ | with_reducible exact HB.out.size | omega | (simp; done) | (simp; omega) | (have := HB.out.size; simp at *; omega)) _)) b)
  have HO0 := Lib.hid (OwnA3.below (by repeat (first | with_reducible exact HO0.out | with_reducible apply OwnA3.drewN | with_reducible apply OwnA3.drew | with_reducible apply OwnA3.alloc)) b)
  have K0 : Hid (Box _ (w.heap.size) (c)) := Lib.hid (Box.below (by repeat (first | with_reducible exact K0.out | with_reducible apply Box.drewN | with_reducible apply Box.drew | (with_reducible refine Box.newAt ?_ ?_ <;> first | (simp; done) | rfl) | with_reducible apply Box.alloc)) b)
  try clear k0a k0b k0c k0d k0z
  have k0z := K0.out.lt
  obtain ⟨k0a, k0b, k0c, k0d⟩ := K0.out.cell
  clear b
  cases hok : c.ok
  · have HT := Lib.hid (dpR_no (c := c) (by simp [hok]))
    go_wp2_with fail
    go_ret2
    exact ⟨_, ret_two (by rw [HT.out]), by rw [HT.out]; exact HO0.out, by repeat (first | with_reducible exact Below.refl _ _ | with_reducible exact HB.out | with_reducible apply Below.drew | with_reducible apply bdN | with_reducible refine Below.alloc ?_ (by first | exact Nat.le_refl _ | with_reducible exact HB.out.size | omega | (simp; done) | (simp; omega) | (have := HB.out.size; simp at *; omega)) _ | with_reducible refine Below.setCell ?_ (by first | exact Nat.le_refl _ | with_reducible exact HB.out.size | omega | (simp; done) | (simp; omega) | (have := HB.out.size; simp at *; omega)) _)⟩
  · have HC := Lib.hid hok
    have he := eq_run c zero hok (by decide)
    cases hz : same c zero
    · have HT := Lib.hid (dpR_yes hok hz)
      rw [hz] at he
      clear hz hok
      have HSz := Lib.hid HB.out.size
      have HNe0 : Hid (∀ g, (Value.slice (some ⟨w.heap.size + 1, 0, none⟩) 0 0).ownBlock = some g → g ≠ w.heap.size) := Lib.hid (fun g hg => by
        have : w.heap.size + 1 = g := by simpa [Value.ownBlock] using hg
        omega)
      go_wp2_with fail
      go_loopw [4, 5, 6, 7, 8, 9] (fun v i _ _ _ _ wr => ∃ n : Nat, n ≤ 81 ∧ i = .int .i64 n ∧ Hid (OwnA3 wr w.heap.size v (dpL c n)) ∧ Hid (Below w.heap.size w wr) ∧ Hid (Box wr w.heap.size c) ∧ Hid (∀ g, v.ownBlock = some g → g ≠ w.heap.size)) (fun _ i _ _ _ _ _ => 81 - (intOf i).toNat)
      case atStart => exact ⟨0, by omega, rfl, HO0, HB, K0, HNe0⟩
      case round =>
        clear HO0 HB K0 k0a k0b k0c k0d k0z he
        obtain ⟨n, hn, rfl, HO, HB, K0, HNe⟩ := hrel
        obtain ⟨k0a, k0b, k0c, k0d⟩ := K0.out.cell
        have k0z := K0.out.lt
        by_cases hlt : n < 81
        · have HX := Lib.hid (cdAt_ok7 (n := (n : Int)) (by omega) (by omega))
          have HAt := Lib.hid (fun w => l2_at7 (n : Int) w (by omega) (by omega))
          have HLn := Lib.hid (dpL_len c n)
          obtain ⟨x, hx⟩ : ∃ x, cdAt (n : Int) = x := ⟨_, rfl⟩
          rw [hx] at HX HAt
          have HXe := Lib.hid hx
          have m0 : (0 : Int) ≤ (n : Int) := by omega
          have m1 : (n : Int) < 81 := by omega
          clear hx
          go_wp2_with fail
          refine ((HAt.out _)).mono ?_
          rintro e w2 ⟨rfl, b⟩
          have Sw2 := Lib.hid b.size
          have HB := Lib.hid (chain0 (w := w) (by repeat (first | with_reducible exact Below.refl _ _ | with_reducible exact HB.out | with_reducible apply Below.drew | with_reducible apply bdN | with_reducible refine Below.alloc ?_ (by first | exact Nat.le_refl _ | with_reducible exact HB.out.size | omega | (simp; done) | (simp; omega) | (have := HB.out.size; simp at *; omega)) _ | with_reducible refine Below.setCell ?_ (by first | exact Nat.le_refl _ | with_reducible exact HB.out.size | omega | (simp; done) | (simp; omega) | (have := HB.out.size; simp at *; omega)) _)) b)
          have HO := Lib.hid (OwnA3.below (by repeat (first | with_reducible exact HO.out | with_reducible apply OwnA3.drewN | with_reducible apply OwnA3.drew | with_reducible apply OwnA3.alloc)) b)
          have K0 : Hid (Box _ (w.heap.size) (c)) := Lib.hid (Box.below (by repeat (first | with_reducible exact K0.out | with_reducible apply Box.drewN | with_reducible apply Box.drew | (with_reducible refine Box.newAt ?_ ?_ <;> first | (simp; done) | rfl) | with_reducible apply Box.alloc)) b)
          try clear k0a k0b k0c k0d k0z
          have k0z := K0.out.lt
          obtain ⟨k0a, k0b, k0c, k0d⟩ := K0.out.cell
          clear b
          have HPl := Lib.hid (fun w => l7_plus x c w HX.out HC.out)
          have HY := Lib.hid (plus_ok x c)
          obtain ⟨y, hy⟩ : ∃ y, plus x c = y := ⟨_, rfl⟩
          rw [hy] at HPl HY
          have HYe := Lib.hid hy
          clear hy
          go_wp2_with fail
          refine ((HPl.out _)).mono ?_
          rintro e w3 ⟨rfl, b⟩
          have Sw3 := Lib.hid b.size
          have HB := Lib.hid (chain0 (w := w) (by repeat (first | with_reducible exact Below.refl _ _ | with_reducible exact HB.out | with_reducible apply Below.drew | with_reducible apply bdN | with_reducible refine Below.alloc ?_ (by first | exact Nat.le_refl _ | with_reducible exact HB.out.size | omega | (simp; done) | (simp; omega) | (have := HB.out.size; simp at *; omega)) _ | with_reducible refine Below.setCell ?_ (by first | exact Nat.le_refl _ | with_reducible exact HB.out.size | omega | (simp; done) | (simp; omega) | (have := HB.out.size; simp at *; omega)) _)) b)
          have HO := Lib.hid (OwnA3.below (by repeat (first | with_reducible exact HO.out | with_reducible apply OwnA3.drewN | with_reducible apply OwnA3.drew | with_reducible apply OwnA3.alloc)) b)
          have K0 : Hid (Box _ (w.heap.size) (c)) := Lib.hid (Box.below (by repeat (first | with_reducible exact K0.out | with_reducible apply Box.drewN | with_reducible apply Box.drew | (with_reducible refine Box.newAt ?_ ?_ <;> first | (simp; done) | rfl) | with_reducible apply Box.alloc)) b)
          have K1 : Hid (Box _ (w2.heap.size) (x)) := Lib.hid (Box.below (by repeat (first | with_reducible exact K1.out | with_reducible apply Box.drewN | with_reducible apply Box.drew | (with_reducible refine Box.newAt ?_ ?_ <;> first | (simp; done) | rfl) | with_reducible apply Box.alloc)) b)
          try clear k0a k0b k0c k0d k0z
          have k0z := K0.out.lt
          obtain ⟨k0a, k0b, k0c, k0d⟩ := K0.out.cell
          try clear k1a k1b k1c k1d k1z
          have k1z := K1.out.lt
          obtain ⟨k1a, k1b, k1c, k1d⟩ := K1.out.cell
          clear b
          have HPl2 := Lib.hid (fun w => l7_plus y c w HY.out HC.out)
          have HZ := Lib.hid (plus_ok y c)
          obtain ⟨z, hz⟩ : ∃ z, plus y c = z := ⟨_, rfl⟩
          rw [hz] at HPl2 HZ
          have HZe := Lib.hid hz
          have HN1 := fun w => l2_number y w HY.out
          have HN2 := fun w => l2_number z w HZ.out
          have hb1 := num_bd HY.out
          have hb2 := num_bd HZ.out
          obtain ⟨k, hk⟩ : ∃ k, num y = k := ⟨_, rfl⟩
          obtain ⟨m, hm⟩ : ∃ m, num z = m := ⟨_, rfl⟩
          rw [hk] at HN1 hb1
          rw [hm] at HN2 hb2
          have HKk := Lib.hid (show num (plus (cdAt (n : Int)) c) = k by rw [HXe.out, HYe.out]; exact hk)
          have HMm := Lib.hid (show num (plus (plus (cdAt (n : Int)) c) c) = m by rw [HXe.out, HYe.out, HZe.out]; exact hm)
          replace HN1 := Lib.hid HN1
          replace HN2 := Lib.hid HN2
          obtain ⟨b1, b2⟩ := hb1
          obtain ⟨b3, b4⟩ := hb2
          clear hz hk hm
          go_wp2_with fail
          obtain ⟨w4, ew, b⟩ : ∃ w1 : World, w1 = (w3.alloc y.obj) ∧ Below ((w3.alloc y.obj)).heap.size ((w3.alloc y.obj)) w1 := ⟨_, rfl, Below.refl _ _⟩
          rw [← ew]
          clear ew
          have Sw4 := Lib.hid b.size
          have HB := Lib.hid (chain0 (w := w) (by repeat (first | with_reducible exact Below.refl _ _ | with_reducible exact HB.out | with_reducible apply Below.drew | with_reducible apply bdN | with_reducible refine Below.alloc ?_ (by first | exact Nat.le_refl _ | with_reducible exact HB.out.size | omega | (simp; done) | (simp; omega) | (have := HB.out.size; simp at *; omega)) _ | with_reducible refine Below.setCell ?_ (by first | exact Nat.le_refl _ | with_reducible exact HB.out.size | omega | (simp; done) | (simp; omega) | (have := HB.out.size; simp at *; omega)) _)) b)
          have HO := Lib.hid (OwnA3.below (by repeat (first | with_reducible exact HO.out | with_reducible apply OwnA3.drewN | with_reducible apply OwnA3.drew | with_reducible apply OwnA3.alloc)) b)
          have K0 : Hid (Box _ (w.heap.size) (c)) := Lib.hid (Box.below (by repeat (first | with_reducible exact K0.out | with_reducible apply Box.drewN | with_reducible apply Box.drew | (with_reducible refine Box.newAt ?_ ?_ <;> first | (simp; done) | rfl) | with_reducible apply Box.alloc)) b)
          have K1 : Hid (Box _ (w2.heap.size) (x)) := Lib.hid (Box.below (by repeat (first | with_reducible exact K1.out | with_reducible apply Box.drewN | with_reducible apply Box.drew | (with_reducible refine Box.newAt ?_ ?_ <;> first | (simp; done) | rfl) | with_reducible apply Box.alloc)) b)
          have K2 : Hid (Box _ (w3.heap.size) (y)) := Lib.hid (Box.below (by repeat (first | with_reducible exact K2.out | with_reducible apply Box.drewN | with_reducible apply Box.drew | (with_reducible refine Box.newAt ?_ ?_ <;> first | (simp; done) | rfl) | with_reducible apply Box.alloc)) b)
          try clear k0a k0b k0c k0d k0z
          have k0z := K0.out.lt
          obtain ⟨k0a, k0b, k0c, k0d⟩ := K0.out.cell
          try clear k1a k1b k1c k1d k1z
          have k1z := K1.out.lt
          obtain ⟨k1a, k1b, k1c, k1d⟩ := K1.out.cell
          try clear k2a k2b k2c k2d k2z
          have k2z := K2.out.lt
          obtain ⟨k2a, k2b, k2c, k2d⟩ := K2.out.cell
          clear b
          have qk0a := fun d os => cell_regrown k0a d os
          have qk0b := fun d os => cell_regrown k0b d os
          have qk0c := fun d os => cell_regrown k0c d os
          have qk0d := fun d os => cell_regrown k0d d os
          have qk1a := fun d os => cell_regrown k1a d os
          have qk1b := fun d os => cell_regrown k1b d os
          have qk1c := fun d os => cell_regrown k1c d os
          have qk1d := fun d os => cell_regrown k1d d os
          have qk2a := fun d os => cell_regrown k2a d os
          have qk2b := fun d os => cell_regrown k2b d os
          have qk2c := fun d os => cell_regrown k2c d os
          have qk2d := fun d os => cell_regrown k2d d os
          refine wp_region_quiet_below (by kernel_rfl) (by kernel_rfl) ?_
          repeat (first | go_big_quiet_step ((first | (go_at_call 85; first | with_reducible exact Calls.regrown_of (HN1.out _) | with_reducible exact Calls.regrown_of (HN2.out _)) | (go_at_call 84; with_reducible exact Calls.regrown_of (HPl2.out _)))) | quiet_step ((first | (go_at_call 85; first | with_reducible exact Calls.regrown_of (HN1.out _) | with_reducible exact Calls.regrown_of (HN2.out _)) | (go_at_call 84; with_reducible exact Calls.regrown_of (HPl2.out _)))))
          refine wpQuiet_nil ?_
          intro w5 hw2
          have b : Below w4.heap.size w4 w5 := by obtain ⟨r, hr⟩ := hw2; rw [hr]; exact below_regrown _ _ _
          clear hw2 qk0a qk0b qk0c qk0d qk1a qk1b qk1c qk1d qk2a qk2b qk2c qk2d
          have Sw5 := Lib.hid b.size
          have HB := Lib.hid (chain0 (w := w) (by repeat (first | with_reducible exact Below.refl _ _ | with_reducible exact HB.out | with_reducible apply Below.drew | with_reducible apply bdN | with_reducible refine Below.alloc ?_ (by first | exact Nat.le_refl _ | with_reducible exact HB.out.size | omega | (simp; done) | (simp; omega) | (have := HB.out.size; simp at *; omega)) _ | with_reducible refine Below.setCell ?_ (by first | exact Nat.le_refl _ | with_reducible exact HB.out.size | omega | (simp; done) | (simp; omega) | (have := HB.out.size; simp at *; omega)) _)) b)
          have HO := Lib.hid (OwnA3.below (by repeat (first | with_reducible exact HO.out | with_reducible apply OwnA3.drewN | with_reducible apply OwnA3.drew | with_reducible apply OwnA3.alloc)) b)
          have K0 : Hid (Box _ (w.heap.size) (c)) := Lib.hid (Box.below (by repeat (first | with_reducible exact K0.out | with_reducible apply Box.drewN | with_reducible apply Box.drew | (with_reducible refine Box.newAt ?_ ?_ <;> first | (simp; done) | rfl) | with_reducible apply Box.alloc)) b)
          have K1 : Hid (Box _ (w2.heap.size) (x)) := Lib.hid (Box.below (by repeat (first | with_reducible exact K1.out | with_reducible apply Box.drewN | with_reducible apply Box.drew | (with_reducible refine Box.newAt ?_ ?_ <;> first | (simp; done) | rfl) | with_reducible apply Box.alloc)) b)
          have K2 : Hid (Box _ (w3.heap.size) (y)) := Lib.hid (Box.below (by repeat (first | with_reducible exact K2.out | with_reducible apply Box.drewN | with_reducible apply Box.drew | (with_reducible refine Box.newAt ?_ ?_ <;> first | (simp; done) | rfl) | with_reducible apply Box.alloc)) b)
          try clear k0a k0b k0c k0d k0z
          have k0z := K0.out.lt
          obtain ⟨k0a, k0b, k0c, k0d⟩ := K0.out.cell
          try clear k1a k1b k1c k1d k1z
          have k1z := K1.out.lt
          obtain ⟨k1a, k1b, k1c, k1d⟩ := K1.out.cell
          try clear k2a k2b k2c k2d k2z
          have k2z := K2.out.lt
          obtain ⟨k2a, k2b, k2c, k2d⟩ := K2.out.cell
          clear b
          have HSz2 := Lib.hid HB.out.size
          by_cases h0 : (n : Int) < k ∧ (n : Int) < m
          · obtain ⟨h0, h1⟩ := h0
            have HG := Lib.hid (dpL_yes HKk.out HMm.out h0 h1)
            go_wp2_with fail
            refine ((l1_least7 k m _)).mono ?_
            rintro e w6 ⟨rfl, b⟩
            have Sw6 := Lib.hid b.size
            have HB := Lib.hid (chain0 (w := w) (by repeat (first | with_reducible exact Below.refl _ _ | with_reducible exact HB.out | with_reducible apply Below.drew | with_reducible apply bdN | with_reducible refine Below.alloc ?_ (by first | exact Nat.le_refl _ | with_reducible exact HB.out.size | omega | (simp; done) | (simp; omega) | (have := HB.out.size; simp at *; omega)) _ | with_reducible refine Below.setCell ?_ (by first | exact Nat.le_refl _ | with_reducible exact HB.out.size | omega | (simp; done) | (simp; omega) | (have := HB.out.size; simp at *; omega)) _)) b)
            have HO := Lib.hid (OwnA3.below (by repeat (first | with_reducible exact HO.out | with_reducible apply OwnA3.drewN | with_reducible apply OwnA3.drew | with_reducible apply OwnA3.alloc)) b)
            have K0 := Lib.hid (Box.below (by repeat (first | with_reducible exact K0.out | with_reducible apply Box.drewN | with_reducible apply Box.drew | with_reducible apply Box.alloc)) b)
            clear b
            go_wp2_with fail
            refine ((l1_most7 k m _)).mono ?_
            rintro e w7 ⟨rfl, b⟩
            have Sw7 := Lib.hid b.size
            have HB := Lib.hid (chain0 (w := w) (by repeat (first | with_reducible exact Below.refl _ _ | with_reducible exact HB.out | with_reducible apply Below.drew | with_reducible apply bdN | with_reducible refine Below.alloc ?_ (by first | exact Nat.le_refl _ | with_reducible exact HB.out.size | omega | (simp; done) | (simp; omega) | (have := HB.out.size; simp at *; omega)) _ | with_reducible refine Below.setCell ?_ (by first | exact Nat.le_refl _ | with_reducible exact HB.out.size | omega | (simp; done) | (simp; omega) | (have := HB.out.size; simp at *; omega)) _)) b)
            have HO := Lib.hid (OwnA3.below (by repeat (first | with_reducible exact HO.out | with_reducible apply OwnA3.drewN | with_reducible apply OwnA3.drew | with_reducible apply OwnA3.alloc)) b)
            have K0 := Lib.hid (Box.below (by repeat (first | with_reducible exact K0.out | with_reducible apply Box.drewN | with_reducible apply Box.drew | with_reducible apply Box.alloc)) b)
            clear b
            have HSz3 := Lib.hid HB.out.size
            obtain ⟨lo, hlo⟩ : ∃ lo, lo2 k m = lo := ⟨_, rfl⟩
            obtain ⟨hi, hhi⟩ : ∃ hi, hi2 k m = hi := ⟨_, rfl⟩
            rw [hlo, hhi] at HG
            rw [hlo, hhi]
            clear hlo hhi
            go_wp2_with (at_builtin; refine append_A3_at rfl (.tmp 43) (.tmp 52) rfl w.heap.size _ (dpL c n) ⟨(n : Int), lo, hi⟩ _ _ rfl rfl rfl HO.out (by have := HLn.out; omega) HSz3.out ?_; intro v1 w8 hO1 hB1 hG1 hat1)
            rw [← HG.out] at hO1
            go_roundw
            case rel => exact ⟨n + 1, by omega, by go_num, hO1, HB.out.trans hB1, Lib.hid (Box.past K0.out hG1 HNe.out), Lib.hid (fun g hg => by
                rcases hat1 with e | e
                · rw [e] at hg; exact HNe.out g hg
                · rw [e] at hg; injection hg with hg; have := K0.out.lt; omega)⟩
            case measure => simp [intOf]; omega
          · have HG := Lib.hid (dpL_no HKk.out HMm.out h0)
            have hor : ¬ (n : Int) < k ∨ ((n : Int) < k ∧ ¬ (n : Int) < m) := by omega
            clear h0
            rcases hor with h | ⟨h0, h1⟩
            · go_wp2_with fail
              go_roundw
              case rel => exact ⟨n + 1, by omega, by go_num, by rw [HG.out]; exact HO, HB, K0, HNe⟩
              case measure => simp [intOf]; omega
            · go_wp2_with fail
              go_roundw
              case rel => exact ⟨n + 1, by omega, by go_num, by rw [HG.out]; exact HO, HB, K0, HNe⟩
              case measure => simp [intOf]; omega
        · obtain rfl : n = 81 := by omega
          go_wp2_with fail
          go_ret2
          exact ⟨_, ret_two (by rw [HT.out]), by rw [HT.out]; exact HO.out, HB.out⟩
    · have HT := Lib.hid (dpR_no (c := c) (by simp [hz]))
      rw [hz] at he
      clear hz
      go_wp2_with fail
      go_ret2
      exact ⟨_, ret_two (by rw [HT.out]), by rw [HT.out]; exact HO0.out, by repeat (first | with_reducible exact Below.refl _ _ | with_reducible exact HB.out | with_reducible apply Below.drew | with_reducible apply bdN | with_reducible refine Below.alloc ?_ (by first | exact Nat.le_refl _ | with_reducible exact HB.out.size | omega | (simp; done) | (simp; omega) | (have := HB.out.size; simp at *; omega)) _ | with_reducible refine Below.setCell ?_ (by first | exact Nat.le_refl _ | with_reducible exact HB.out.size | omega | (simp; done) | (simp; omega) | (have := HB.out.size; simp at *; omega)) _)⟩
end Go.Proofs.Ytfbcjcfhdclklaa.parting
