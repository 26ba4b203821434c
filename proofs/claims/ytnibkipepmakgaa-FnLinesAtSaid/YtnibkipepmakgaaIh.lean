/- What a hand is: the program's and the model's test. -/
import Derived.Test.YtnibkipepmakgaaPl
import Derived.Test.YtnibkipepmakgaaRx
namespace Go.Proofs.Ytnibkipepmakgaa.cards
open Go.RowKit
set_option linter.unusedVariables false

theorem in_yes (a lo hi : Int) (w : World) (h0 : lo ≤ a) (h1 : a ≤ hi) : Calls Try.prog 25 #[.int .i64 a, .int .i64 lo, .int .i64 hi] w fun e w' => e = .returned (.bool true) ∧ w = w' := by
  go_enter Try.func25, Try.ntmps25
  go_wp2
  go_ret
  exact ⟨ret_bool (by simp), rfl⟩
theorem in_no (a lo hi : Int) (w : World) (h : a < lo ∨ hi < a) : Calls Try.prog 25 #[.int .i64 a, .int .i64 lo, .int .i64 hi] w fun e w' => e = .returned (.bool false) ∧ w = w' := by
  rcases h with h | h
  · go_enter Try.func25, Try.ntmps25
    go_wp2
    go_ret
    exact ⟨rfl, rfl⟩
  · have hd : decide (a ≤ hi) = false := by simp; omega
    have HD := Lib.hid hd
    clear hd
    go_enter Try.func25, Try.ntmps25
    go_wp2
    all_goals go_ret
    all_goals first | exact ⟨ret_bool HD.out, rfl⟩ | exact ⟨rfl, rfl⟩

/-- Is a list a hand? -/
def upTo (l : List Cd) (k : Nat) : Prop := ∀ i x, i < k → l[i]? = some x → x.ok = true ∧ ∀ y, l[i + 1]? = some y → i + 1 < k → num x < num y
def isHand (l : List Cd) : Prop := l.length ≤ 27 ∧ l.all Cd.ok = true ∧ sorted l
noncomputable def handB (l : List Cd) : Bool := @decide (isHand l) (Classical.propDecidable _)
theorem handB_true {l : List Cd} : handB l = true ↔ isHand l := by simp [handB]
theorem handB_false {l : List Cd} : handB l = false ↔ ¬ isHand l := by simp [handB]
theorem sorted_of {l : List Cd} (h : ∀ i x y, l[i]? = some x → l[i + 1]? = some y → num x < num y) : sorted l := by
  unfold sorted
  rw [List.pairwise_iff_getElem]
  intro i j hi hj hij
  induction j with
  | zero => omega
  | succ j ih =>
    have h1 := h j l[j] l[j + 1] (List.getElem?_eq_getElem (by omega)) (List.getElem?_eq_getElem hj)
    rcases Nat.lt_or_ge i j with h2 | h2
    · have := ih (by omega) h2; omega
    · obtain rfl : i = j := by omega
      exact h1
theorem hand_of {l : List Cd} (h27 : l.length ≤ 27) (h : upTo l l.length) : isHand l := by
  refine ⟨h27, ?_, ?_⟩
  · rw [List.all_eq_true]
    intro x hx
    obtain ⟨i, hi, rfl⟩ := List.mem_iff_getElem.1 hx
    exact (h i l[i] hi (List.getElem?_eq_getElem hi)).1
  · refine sorted_of fun i x y hx hy => ?_
    have hi := (List.getElem?_eq_some_iff.1 hx).1
    have hj := (List.getElem?_eq_some_iff.1 hy).1
    exact (h i x hi hx).2 y hy hj
theorem not_hand_bad {l : List Cd} {i : Nat} {x : Cd} (hx : l[i]? = some x) (h : x.ok = false) : ¬ isHand l := fun hh => by
  have := List.all_eq_true.1 hh.2.1 x (List.mem_of_getElem? hx)
  rw [h] at this; cases this
theorem not_hand_order {l : List Cd} {i : Nat} {x y : Cd} (hx : l[i]? = some x) (hy : l[i + 1]? = some y) (h : ¬ num x < num y) : ¬ isHand l := fun hh => h (sorted_lt hh.2.2 (Nat.lt_succ_self i) hx hy)
theorem num_bd {x : Cd} (h : x.ok = true) : 0 ≤ num x ∧ num x ≤ 80 := by
  obtain ⟨⟨x1, x2⟩, ⟨x3, x4⟩, ⟨x5, x6⟩, x7, x8⟩ := Cd.bd h
  unfold num; omega

set_option maxRecDepth 100000 in
set_option maxHeartbeats 1000000 in
theorem l2_less (x y : Cd) (w : World) (hx : x.ok = true) (hy : y.ok = true) :
    Calls Try.prog 44 #[x.val, y.val] w fun e w' => e = .returned (.bool (decide (num x < num y))) ∧ Below w.heap.size w w' := by
  have HX := Lib.hid hx
  have HY := Lib.hid hy
  clear hx hy
  go_enter Try.func44, Try.ntmps44
  go_wp2_with fail
  obtain ⟨w1, ew, b⟩ : ∃ wOPN : World, wOPN = ((w.alloc x.obj).alloc y.obj) ∧ Below (((w.alloc x.obj).alloc y.obj)).heap.size (((w.alloc x.obj).alloc y.obj)) wOPN := ⟨_, rfl, Below.refl _ _⟩
  rw [← ew]
  clear ew
  have Sw1 := Lib.hid b.size
  have HB := Lib.hid (chain0 (w := w) (by repeat (first | with_reducible exact Below.refl _ _ | with_reducible exact HB.out | with_reducible apply Below.drew | with_reducible apply bdN | with_reducible refine Below.alloc ?_ (by first | exact Nat.le_refl _ | with_reducible exact HB.out.size | omega | (simp; done) | (simp; omega) | (have := HB.out.size; simp at *; omega)) _ | with_reducible refine Below.setCell ?_ (by first | exact Nat.le_refl _ | with_reducible exact HB.out.size | omega | (simp; done) | (simp; omega) | (have := HB.out.size; simp at *; omega)) _)) b)
  have K0 : Hid (Box _ (w.heap.size) (x)) := Lib.hid (Box.below (by repeat (first | with_reducible exact K0.out | with_reducible apply Box.drewN | with_reducible apply Box.drew | (with_reducible refine Box.newAt ?_ ?_ <;> first | (simp; done) | rfl) | with_reducible apply Box.alloc)) b)
  have K1 : Hid (Box _ (w.heap.size + 1) (y)) := Lib.hid (Box.below (by repeat (first | with_reducible exact K1.out | with_reducible apply Box.drewN | with_reducible apply Box.drew | (with_reducible refine Box.newAt ?_ ?_ <;> first | (simp; done) | rfl) | with_reducible apply Box.alloc)) b)
  try clear k0a k0b k0c k0d k0z
  have k0z := K0.out.lt
  obtain ⟨k0a, k0b, k0c, k0d⟩ := K0.out.cell
  try clear k1a k1b k1c k1d k1z
  have k1z := K1.out.lt
  obtain ⟨k1a, k1b, k1c, k1d⟩ := K1.out.cell
  clear b
  have qk0a := fun d os => cell_regrown k0a d os
  have qk0b := fun d os => cell_regrown k0b d os
  have qk0c := fun d os => cell_regrown k0c d os
  have qk0d := fun d os => cell_regrown k0d d os
  have qk1a := fun d os => cell_regrown k1a d os
  have qk1b := fun d os => cell_regrown k1b d os
  have qk1c := fun d os => cell_regrown k1c d os
  have qk1d := fun d os => cell_regrown k1d d os
  refine wp_region_quiet_below (by kernel_rfl) (by kernel_rfl) ?_
  repeat (first | go_big_quiet_step ((go_at_call 50; (with_reducible refine Calls.regrown_of (l2_number _ _ ?_)); (first | exact HX.out | exact HY.out))) | quiet_step ((go_at_call 50; (with_reducible refine Calls.regrown_of (l2_number _ _ ?_)); (first | exact HX.out | exact HY.out))))
  refine wpQuiet_nil ?_
  intro w2 hw2
  have b : Below w1.heap.size w1 w2 := by obtain ⟨r, hr⟩ := hw2; rw [hr]; exact below_regrown _ _ _
  clear hw2 qk0a qk0b qk0c qk0d qk1a qk1b qk1c qk1d
  have Sw2 := Lib.hid b.size
  have HB := Lib.hid (chain0 (w := w) (by repeat (first | with_reducible exact Below.refl _ _ | with_reducible exact HB.out | with_reducible apply Below.drew | with_reducible apply bdN | with_reducible refine Below.alloc ?_ (by first | exact Nat.le_refl _ | with_reducible exact HB.out.size | omega | (simp; done) | (simp; omega) | (have := HB.out.size; simp at *; omega)) _ | with_reducible refine Below.setCell ?_ (by first | exact Nat.le_refl _ | with_reducible exact HB.out.size | omega | (simp; done) | (simp; omega) | (have := HB.out.size; simp at *; omega)) _)) b)
  have K0 : Hid (Box _ (w.heap.size) (x)) := Lib.hid (Box.below (by repeat (first | with_reducible exact K0.out | with_reducible apply Box.drewN | with_reducible apply Box.drew | (with_reducible refine Box.newAt ?_ ?_ <;> first | (simp; done) | rfl) | with_reducible apply Box.alloc)) b)
  have K1 : Hid (Box _ (w.heap.size + 1) (y)) := Lib.hid (Box.below (by repeat (first | with_reducible exact K1.out | with_reducible apply Box.drewN | with_reducible apply Box.drew | (with_reducible refine Box.newAt ?_ ?_ <;> first | (simp; done) | rfl) | with_reducible apply Box.alloc)) b)
  try clear k0a k0b k0c k0d k0z
  have k0z := K0.out.lt
  obtain ⟨k0a, k0b, k0c, k0d⟩ := K0.out.cell
  try clear k1a k1b k1c k1d k1z
  have k1z := K1.out.lt
  obtain ⟨k1a, k1b, k1c, k1d⟩ := K1.out.cell
  clear b
  go_wp2_with fail
  go_ret
  exact ⟨rfl, by repeat (first | with_reducible exact Below.refl _ _ | with_reducible exact HB.out | with_reducible apply Below.drew | with_reducible apply bdN | with_reducible refine Below.alloc ?_ (by first | exact Nat.le_refl _ | with_reducible exact HB.out.size | omega | (simp; done) | (simp; omega) | (have := HB.out.size; simp at *; omega)) _ | with_reducible refine Below.setCell ?_ (by first | exact Nat.le_refl _ | with_reducible exact HB.out.size | omega | (simp; done) | (simp; omega) | (have := HB.out.size; simp at *; omega)) _)⟩

set_option maxRecDepth 100000 in
set_option maxHeartbeats 4000000 in
theorem l2_hand (l : List Cd) (p : Option Addr) (n c : Nat) (w : World) (hn : l.length = n) (hl : n ≤ 1000000000) (hr : Rd w p (flat l)) :
    Calls Try.prog 24 #[.slice p n c] w fun e w' => e = .returned (.bool (handB l)) ∧ Below w.heap.size w w' := by
  have HN := Lib.hid hn
  have HR := Lib.hid hr
  clear hn hr
  go_enter Try.func24, Try.ntmps24
  go_wp2_with fail
  go_loopw [3] (fun i wr => ∃ k : Nat, k ≤ n ∧ k ≤ 28 ∧ i = .int .i64 k ∧ Hid (upTo l k) ∧ Hid (Below w.heap.size w wr)) (fun i _ => n - (intOf i).toNat)
  case atStart => exact ⟨0, Nat.zero_le _, by omega, rfl, fun i x h => by omega, Below.refl _ _⟩
  case round =>
    obtain ⟨k, hk, hk28, rfl, HU, HB⟩ := hrel
    by_cases hlt : k < n ∧ k ≤ 27
    · obtain ⟨h1, h2⟩ := hlt
      obtain ⟨b, o, x, rfl, hb, hx, c0, c1, c2, c3⟩ := (HR.out.below HB.out).card (k := k) (by rw [HN.out]; exact h1)
      have HX := Lib.hid hx
      clear hx
      have b0 : (0 : Int) ≤ (k : Int) := by omega
      have b1 : (k : Int) < (n : Int) := by omega
      cases hok : x.ok
      · have HF := Lib.hid (show false = handB l from (handB_false.2 (not_hand_bad HX.out hok)).symm)
        go_wp2_with fail
        have qc0 := fun d os => cell_regrown c0 d os
        have qc1 := fun d os => cell_regrown c1 d os
        have qc2 := fun d os => cell_regrown c2 d os
        have qc3 := fun d os => cell_regrown c3 d os
        refine wp_region_quiet_below (by kernel_rfl) (by kernel_rfl) ?_
        repeat (first | go_big_quiet_step ((go_at_call 43; with_reducible exact Calls.regrown_of (l2_card _ _))) | quiet_step ((go_at_call 43; with_reducible exact Calls.regrown_of (l2_card _ _))))
        refine wpQuiet_nil ?_
        intro w2 hw2
        have b : Below wr.heap.size wr w2 := by obtain ⟨r, hr⟩ := hw2; rw [hr]; exact below_regrown _ _ _
        clear hw2 qc0 qc1 qc2 qc3
        have Sw2 := Lib.hid b.size
        have HB := Lib.hid (chain0 (w := w) (by repeat (first | with_reducible exact Below.refl _ _ | with_reducible exact HB.out | with_reducible apply Below.drew | with_reducible apply bdN | with_reducible refine Below.alloc ?_ (by first | exact Nat.le_refl _ | with_reducible exact HB.out.size | omega | (simp; done) | (simp; omega) | (have := HB.out.size; simp at *; omega)) _ | with_reducible refine Below.setCell ?_ (by first | exact Nat.le_refl _ | with_reducible exact HB.out.size | omega | (simp; done) | (simp; omega) | (have := HB.out.size; simp at *; omega)) _)) b)
        clear b
        go_wp2_with fail
        go_ret
        exact ⟨ret_bool HF.out, HB.out⟩
      · have HK := Lib.hid hok
        by_cases h0 : 0 < k
        · obtain ⟨m, rfl⟩ : ∃ m, k = m + 1 := ⟨k - 1, by omega⟩
          obtain ⟨b2, o2, y, hbo, hb2, hy, d0, d1, d2, d3⟩ := (HR.out.below HB.out).card (k := m) (by rw [HN.out]; omega)
          injection hbo with hbo
          injection hbo with e1 e2
          subst e1; subst e2
          have HY := Lib.hid hy
          have HYK := Lib.hid ((HU.out m y (by omega) hy).1)
          clear hy
          have m0 : (0 : Int) ≤ (m : Int) := by omega
          have m1 : (m : Int) < (n : Int) := by omega
          cases hq : decide (num y < num x)
          · have HF := Lib.hid (show false = handB l from (handB_false.2 (not_hand_order HY.out HX.out (by simpa using hq))).symm)
            go_wp2_with fail
            have qc0 := fun d os => cell_regrown c0 d os
            have qc1 := fun d os => cell_regrown c1 d os
            have qc2 := fun d os => cell_regrown c2 d os
            have qc3 := fun d os => cell_regrown c3 d os
            have qd0 := fun d os => cell_regrown d0 d os
            have qd1 := fun d os => cell_regrown d1 d os
            have qd2 := fun d os => cell_regrown d2 d os
            have qd3 := fun d os => cell_regrown d3 d os
            refine wp_region_quiet_below (by kernel_rfl) (by kernel_rfl) ?_
            repeat (first | go_big_quiet_step ((first | (go_at_call 43; with_reducible exact Calls.regrown_of (l2_card _ _)) | (go_at_call 44; with_reducible exact Calls.regrown_of (l2_less _ _ _ HYK.out HK.out)))) | quiet_step ((first | (go_at_call 43; with_reducible exact Calls.regrown_of (l2_card _ _)) | (go_at_call 44; with_reducible exact Calls.regrown_of (l2_less _ _ _ HYK.out HK.out)))))
            refine wpQuiet_nil ?_
            intro w2 hw2
            have b : Below wr.heap.size wr w2 := by obtain ⟨r, hr⟩ := hw2; rw [hr]; exact below_regrown _ _ _
            clear hw2 qc0 qc1 qc2 qc3 qd0 qd1 qd2 qd3
            have Sw2 := Lib.hid b.size
            have HB := Lib.hid (chain0 (w := w) (by repeat (first | with_reducible exact Below.refl _ _ | with_reducible exact HB.out | with_reducible apply Below.drew | with_reducible apply bdN | with_reducible refine Below.alloc ?_ (by first | exact Nat.le_refl _ | with_reducible exact HB.out.size | omega | (simp; done) | (simp; omega) | (have := HB.out.size; simp at *; omega)) _ | with_reducible refine Below.setCell ?_ (by first | exact Nat.le_refl _ | with_reducible exact HB.out.size | omega | (simp; done) | (simp; omega) | (have := HB.out.size; simp at *; omega)) _)) b)
            clear b
            go_wp2_with fail
            go_ret
            exact ⟨ret_bool HF.out, HB.out⟩
          · have HU1 := Lib.hid (show upTo l (m + 1 + 1) from fun i z hi hz => by
              rcases Nat.lt_or_ge i m with h | h
              · obtain ⟨a1, a2⟩ := HU.out i z (by omega) hz
                exact ⟨a1, fun u hu _ => a2 u hu (by omega)⟩
              · rcases Nat.lt_or_ge m i with h' | h'
                · obtain rfl : i = m + 1 := by omega
                  have := HX.out; rw [hz] at this; injection this with this; subst this
                  exact ⟨HK.out, fun u _ h => by omega⟩
                · obtain rfl : i = m := by omega
                  have := HY.out; rw [hz] at this; injection this with this; subst this
                  refine ⟨HYK.out, fun u hu _ => ?_⟩
                  have := HX.out; rw [hu] at this; injection this with this; subst this
                  exact of_decide_eq_true hq)
            go_wp2_with fail
            have qc0 := fun d os => cell_regrown c0 d os
            have qc1 := fun d os => cell_regrown c1 d os
            have qc2 := fun d os => cell_regrown c2 d os
            have qc3 := fun d os => cell_regrown c3 d os
            have qd0 := fun d os => cell_regrown d0 d os
            have qd1 := fun d os => cell_regrown d1 d os
            have qd2 := fun d os => cell_regrown d2 d os
            have qd3 := fun d os => cell_regrown d3 d os
            refine wp_region_quiet_below (by kernel_rfl) (by kernel_rfl) ?_
            repeat (first | go_big_quiet_step ((first | (go_at_call 43; with_reducible exact Calls.regrown_of (l2_card _ _)) | (go_at_call 44; with_reducible exact Calls.regrown_of (l2_less _ _ _ HYK.out HK.out)))) | quiet_step ((first | (go_at_call 43; with_reducible exact Calls.regrown_of (l2_card _ _)) | (go_at_call 44; with_reducible exact Calls.regrown_of (l2_less _ _ _ HYK.out HK.out)))))
            refine wpQuiet_nil ?_
            intro w2 hw2
            have b : Below wr.heap.size wr w2 := by obtain ⟨r, hr⟩ := hw2; rw [hr]; exact below_regrown _ _ _
            clear hw2 qc0 qc1 qc2 qc3 qd0 qd1 qd2 qd3
            have Sw2 := Lib.hid b.size
            have HB := Lib.hid (chain0 (w := w) (by repeat (first | with_reducible exact Below.refl _ _ | with_reducible exact HB.out | with_reducible apply Below.drew | with_reducible apply bdN | with_reducible refine Below.alloc ?_ (by first | exact Nat.le_refl _ | with_reducible exact HB.out.size | omega | (simp; done) | (simp; omega) | (have := HB.out.size; simp at *; omega)) _ | with_reducible refine Below.setCell ?_ (by first | exact Nat.le_refl _ | with_reducible exact HB.out.size | omega | (simp; done) | (simp; omega) | (have := HB.out.size; simp at *; omega)) _)) b)
            clear b
            go_wp2_with fail
            go_roundw
            case rel => exact ⟨m + 1 + 1, by omega, by omega, by go_num, HU1, HB⟩
            case measure => simp [intOf]; omega
        · obtain rfl : k = 0 := by omega
          have HU1 := Lib.hid (show upTo l 1 from fun i y hi hy => by
            obtain rfl : i = 0 := by omega
            have := HX.out; rw [hy] at this; injection this with this; subst this
            exact ⟨HK.out, fun z _ h => by omega⟩)
          simp only [Nat.zero_mul, Nat.add_zero] at c0 c1 c2 c3
          rw [show ((0 : Nat) : Int) = 0 from rfl]
          go_wp2_with fail
          have qc0 := fun d os => cell_regrown c0 d os
          have qc1 := fun d os => cell_regrown c1 d os
          have qc2 := fun d os => cell_regrown c2 d os
          have qc3 := fun d os => cell_regrown c3 d os
          refine wp_region_quiet_below (by kernel_rfl) (by kernel_rfl) ?_
          repeat (first | go_big_quiet_step ((go_at_call 43; with_reducible exact Calls.regrown_of (l2_card _ _))) | quiet_step ((go_at_call 43; with_reducible exact Calls.regrown_of (l2_card _ _))))
          refine wpQuiet_nil ?_
          intro w2 hw2
          have b : Below wr.heap.size wr w2 := by obtain ⟨r, hr⟩ := hw2; rw [hr]; exact below_regrown _ _ _
          clear hw2 qc0 qc1 qc2 qc3
          have Sw2 := Lib.hid b.size
          have HB := Lib.hid (chain0 (w := w) (by repeat (first | with_reducible exact Below.refl _ _ | with_reducible exact HB.out | with_reducible apply Below.drew | with_reducible apply bdN | with_reducible refine Below.alloc ?_ (by first | exact Nat.le_refl _ | with_reducible exact HB.out.size | omega | (simp; done) | (simp; omega) | (have := HB.out.size; simp at *; omega)) _ | with_reducible refine Below.setCell ?_ (by first | exact Nat.le_refl _ | with_reducible exact HB.out.size | omega | (simp; done) | (simp; omega) | (have := HB.out.size; simp at *; omega)) _)) b)
          clear b
          go_wp2_with fail
          go_roundw
          case rel => exact ⟨1, by omega, by omega, rfl, HU1, HB⟩
          case measure => simp [intOf]; omega
    · by_cases h27 : n ≤ 27
      · obtain rfl : k = n := by omega
        have HF := Lib.hid (show true = handB l from (handB_true.2 (hand_of (by rw [HN.out]; exact h27) (by rw [HN.out]; exact HU.out))).symm)
        go_wp2_with fail
        go_ret
        exact ⟨ret_bool (by rw [← HF.out]; simp; omega), HB.out⟩
      · have HF := Lib.hid (show false = handB l from (handB_false.2 (fun hh => by have := hh.1; have := HN.out; omega)).symm)
        by_cases hkn : k < n
        · go_wp2_with fail
          go_ret
          exact ⟨ret_bool (by rw [← HF.out]; simp; omega), HB.out⟩
        · go_wp2_with fail
          go_ret
          exact ⟨ret_bool (by rw [← HF.out]; simp; omega), HB.out⟩

theorem ok_at {l : List Cd} {i : Nat} {x : Cd} (h : l.all Cd.ok = true) (hx : l[i]? = some x) : x.ok = true := List.all_eq_true.1 h x (List.mem_of_getElem? hx)

set_option maxRecDepth 100000 in
set_option maxHeartbeats 4000000 in
theorem is_hand (l : List Cd) (p : Option Addr) (n c : Nat) (w : World) (hn : l.length = n) (hl : n ≤ 1000000000) (hr : Rd w p (flat l)) :
    Calls Try.prog 32 #[.slice p n c] w fun e w' => e = .returned (.bool (handB l)) ∧ Below w.heap.size w w' := by
  have HN := Lib.hid hn
  have HR := Lib.hid hr
  clear hn hr
  by_cases h27 : 27 < n
  · have HF := Lib.hid (show false = handB l from (handB_false.2 (fun hh => by have := hh.1; have := HN.out; omega)).symm)
    go_enter Try.func32, Try.ntmps32
    go_wp2_with fail
    go_ret
    exact ⟨ret_bool HF.out, Below.refl _ _⟩
  · cases hok : l.all Cd.ok
    · have HF := Lib.hid (show false = handB l from (handB_false.2 (fun hh => by have := hh.2.1; rw [hok] at this; cases this)).symm)
      go_enter Try.func32, Try.ntmps32
      go_wp2_with fail
      refine ((are_cards l p n c _ HN.out hl HR.out)).mono ?_
      rintro e w1 ⟨rfl, b⟩
      have Sw1 := Lib.hid b.size
      have HB := Lib.hid (chain0 (w := w) (by repeat (first | with_reducible exact Below.refl _ _ | with_reducible exact HB.out | with_reducible apply Below.drew | with_reducible apply bdN | with_reducible refine Below.alloc ?_ (by first | exact Nat.le_refl _ | with_reducible exact HB.out.size | omega | (simp; done) | (simp; omega) | (have := HB.out.size; simp at *; omega)) _ | with_reducible refine Below.setCell ?_ (by first | exact Nat.le_refl _ | with_reducible exact HB.out.size | omega | (simp; done) | (simp; omega) | (have := HB.out.size; simp at *; omega)) _)) b)
      have HR := Lib.hid (Rd.below (by repeat (first | with_reducible exact HR.out | with_reducible apply Rd.drewN | with_reducible apply Rd.drew | with_reducible apply Rd.alloc)) b)
      clear b
      go_wp2_with fail
      go_ret
      exact ⟨ret_bool HF.out, by repeat (first | with_reducible exact Below.refl _ _ | with_reducible exact HB.out | with_reducible apply Below.drew | with_reducible apply bdN | with_reducible refine Below.alloc ?_ (by first | exact Nat.le_refl _ | with_reducible exact HB.out.size | omega | (simp; done) | (simp; omega) | (have := HB.out.size; simp at *; omega)) _ | with_reducible refine Below.setCell ?_ (by first | exact Nat.le_refl _ | with_reducible exact HB.out.size | omega | (simp; done) | (simp; omega) | (have := HB.out.size; simp at *; omega)) _)⟩
    · have HK := Lib.hid hok
      go_enter Try.func32, Try.ntmps32
      go_wp2_with fail
      refine ((are_cards l p n c _ HN.out hl HR.out)).mono ?_
      rintro e w1 ⟨rfl, b⟩
      have Sw1 := Lib.hid b.size
      have HB := Lib.hid (chain0 (w := w) (by repeat (first | with_reducible exact Below.refl _ _ | with_reducible exact HB.out | with_reducible apply Below.drew | with_reducible apply bdN | with_reducible refine Below.alloc ?_ (by first | exact Nat.le_refl _ | with_reducible exact HB.out.size | omega | (simp; done) | (simp; omega) | (have := HB.out.size; simp at *; omega)) _ | with_reducible refine Below.setCell ?_ (by first | exact Nat.le_refl _ | with_reducible exact HB.out.size | omega | (simp; done) | (simp; omega) | (have := HB.out.size; simp at *; omega)) _)) b)
      have HR := Lib.hid (Rd.below (by repeat (first | with_reducible exact HR.out | with_reducible apply Rd.drewN | with_reducible apply Rd.drew | with_reducible apply Rd.alloc)) b)
      clear b
      go_wp2_with fail
      clear hok
      go_loopw [3, 15] (fun _ i wr => ∃ k : Nat, (k ≤ n ∧ (0 < n → k < n)) ∧ i = .int .i64 k ∧ Hid (∀ i x y, i < k → l[i]? = some x → l[i + 1]? = some y → num x < num y) ∧ Hid (Below w.heap.size w wr) ∧ Hid (Rd wr p (flat l))) (fun _ i _ => n - (intOf i).toNat)
      case atStart => exact ⟨0, by omega, rfl, fun i x y h => by omega, HB, HR⟩
      case round =>
        clear HB HR
        obtain ⟨k, ⟨hk, hk0⟩, rfl, HU, HB, HR⟩ := hrel
        by_cases hlt : k + 1 < n
        · obtain ⟨b, o, x, rfl, hb, hx, c0, c1, c2, c3⟩ := HR.out.card (k := k) (by rw [HN.out]; omega)
          obtain ⟨b2, o2, y, hbo, hb2, hy, d0, d1, d2, d3⟩ := HR.out.card (k := k + 1) (by rw [HN.out]; omega)
          injection hbo with hbo
          injection hbo with e1 e2
          subst e1; subst e2
          have HX := Lib.hid hx
          have HY := Lib.hid hy
          have HQ := Lib.hid (cmp_num (ok_at HK.out hx) (ok_at HK.out hy)).1
          obtain ⟨q0, q1⟩ := cmpC_bd x y
          clear hx hy
          have m0 : (0 : Int) ≤ (k : Int) := by omega
          have m1 : (k : Int) < (n : Int) := by omega
          have m2 : (k : Int) + 1 < (n : Int) := by omega
          have wr1 : IntKind.i64.wrap ((k : Int) + 1) = (k : Int) + 1 := IntWalk.i64_in _ (by omega)
          have wr2 : ((k : Int) + 1).toNat = k + 1 := by omega
          cases hq : decide (0 ≤ cmpC x y)
          · have HU1 := Lib.hid (show ∀ i x y, i < k + 1 → l[i]? = some x → l[i + 1]? = some y → num x < num y from fun i u v hi hu hv => by
              rcases Nat.lt_or_ge i k with h | h
              · exact HU.out i u v h hu hv
              · obtain rfl : i = k := by omega
                have h1 := HX.out; rw [hu] at h1; injection h1 with h1; subst h1
                have h2 := HY.out; rw [hv] at h2; injection h2 with h2; subst h2
                exact HQ.out.1 (by have := of_decide_eq_false hq; omega))
            go_wp2_with fail
            have qc0 := fun d os => cell_regrown c0 d os
            have qc1 := fun d os => cell_regrown c1 d os
            have qc2 := fun d os => cell_regrown c2 d os
            have qc3 := fun d os => cell_regrown c3 d os
            have qd0 := fun d os => cell_regrown d0 d os
            have qd1 := fun d os => cell_regrown d1 d os
            have qd2 := fun d os => cell_regrown d2 d os
            have qd3 := fun d os => cell_regrown d3 d os
            refine wp_region_quiet_below (by kernel_rfl) (by kernel_rfl) ?_
            repeat (first | go_big_quiet_step ((go_at_call 47; with_reducible exact Calls.regrown_of (compare_cards _ _ _))) | quiet_step ((go_at_call 47; with_reducible exact Calls.regrown_of (compare_cards _ _ _))))
            refine wpQuiet_nil ?_
            intro w2 hw2
            have b : Below wr.heap.size wr w2 := by obtain ⟨r, hr⟩ := hw2; rw [hr]; exact below_regrown _ _ _
            clear hw2 qc0 qc1 qc2 qc3 qd0 qd1 qd2 qd3
            have Sw2 := Lib.hid b.size
            have HB := Lib.hid (chain0 (w := w) (by repeat (first | with_reducible exact Below.refl _ _ | with_reducible exact HB.out | with_reducible apply Below.drew | with_reducible apply bdN | with_reducible refine Below.alloc ?_ (by first | exact Nat.le_refl _ | with_reducible exact HB.out.size | omega | (simp; done) | (simp; omega) | (have := HB.out.size; simp at *; omega)) _ | with_reducible refine Below.setCell ?_ (by first | exact Nat.le_refl _ | with_reducible exact HB.out.size | omega | (simp; done) | (simp; omega) | (have := HB.out.size; simp at *; omega)) _)) b)
            have HR := Lib.hid (Rd.below (by repeat (first | with_reducible exact HR.out | with_reducible apply Rd.drewN | with_reducible apply Rd.drew | with_reducible apply Rd.alloc)) b)
            clear b
            clear c0 c1 c2 c3 d0 d1 d2 d3 wr1 wr2
            go_wp2_with fail
            go_roundw
            case rel => exact ⟨k + 1, by omega, by go_num, HU1, HB, HR⟩
            case measure => simp [intOf]; omega
          · have HF := Lib.hid (show false = handB l from (handB_false.2 (not_hand_order HX.out HY.out (fun h => by have := HQ.out.2 h; have := of_decide_eq_true hq; omega))).symm)
            go_wp2_with fail
            have qc0 := fun d os => cell_regrown c0 d os
            have qc1 := fun d os => cell_regrown c1 d os
            have qc2 := fun d os => cell_regrown c2 d os
            have qc3 := fun d os => cell_regrown c3 d os
            have qd0 := fun d os => cell_regrown d0 d os
            have qd1 := fun d os => cell_regrown d1 d os
            have qd2 := fun d os => cell_regrown d2 d os
            have qd3 := fun d os => cell_regrown d3 d os
            refine wp_region_quiet_below (by kernel_rfl) (by kernel_rfl) ?_
            repeat (first | go_big_quiet_step ((go_at_call 47; with_reducible exact Calls.regrown_of (compare_cards _ _ _))) | quiet_step ((go_at_call 47; with_reducible exact Calls.regrown_of (compare_cards _ _ _))))
            refine wpQuiet_nil ?_
            intro w2 hw2
            have b : Below wr.heap.size wr w2 := by obtain ⟨r, hr⟩ := hw2; rw [hr]; exact below_regrown _ _ _
            clear hw2 qc0 qc1 qc2 qc3 qd0 qd1 qd2 qd3
            have Sw2 := Lib.hid b.size
            have HB := Lib.hid (chain0 (w := w) (by repeat (first | with_reducible exact Below.refl _ _ | with_reducible exact HB.out | with_reducible apply Below.drew | with_reducible apply bdN | with_reducible refine Below.alloc ?_ (by first | exact Nat.le_refl _ | with_reducible exact HB.out.size | omega | (simp; done) | (simp; omega) | (have := HB.out.size; simp at *; omega)) _ | with_reducible refine Below.setCell ?_ (by first | exact Nat.le_refl _ | with_reducible exact HB.out.size | omega | (simp; done) | (simp; omega) | (have := HB.out.size; simp at *; omega)) _)) b)
            have HR := Lib.hid (Rd.below (by repeat (first | with_reducible exact HR.out | with_reducible apply Rd.drewN | with_reducible apply Rd.drew | with_reducible apply Rd.alloc)) b)
            clear b
            clear c0 c1 c2 c3 d0 d1 d2 d3 wr1 wr2
            go_wp2_with fail
            go_ret
            exact ⟨ret_bool HF.out, HB.out⟩
        · have HF := Lib.hid (show true = handB l from (handB_true.2 ⟨by rw [HN.out]; omega, HK.out, sorted_of fun i x y hx hy => HU.out i x y (by have := (List.getElem?_eq_some_iff.1 hy).1; have := HN.out; omega) hx hy⟩).symm)
          go_wp2_with fail
          go_ret
          exact ⟨ret_bool HF.out, HB.out⟩

end Go.Proofs.Ytnibkipepmakgaa.cards
