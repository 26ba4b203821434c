/- Numbers looked for in slices of numbers. -/
import Derived.Test.YtnibkipepmakgaaIs
namespace Go.Proofs.Ytnibkipepmakgaa.maps
open Go.RowKit
open cards
set_option linter.unusedVariables false

/-- The place of a number in a list, or -1. -/
def fiI (c : Int) : List Int → Nat
  | [] => 0
  | x :: r => if c = x then 0 else fiI c r + 1
def posI (l : List Int) (c : Int) : Int := if c ∈ l then (fiI c l : Int) else -1
theorem fiI_at : ∀ {l : List Int} {c : Int} {k : Nat}, l[k]? = some c → (∀ (j : Nat) y, j < k → l[j]? = some y → c ≠ y) → fiI c l = k
  | [], c, k, h, _ => by simp at h
  | y :: r, c, 0, h, _ => by
    obtain rfl : y = c := by simpa using h
    simp [fiI]
  | y :: r, c, k + 1, h, hu => by
    have h0 := hu 0 y (by omega) rfl
    have ih := fiI_at (l := r) (k := k) (by simpa using h) (fun j z hj hz => hu (j + 1) z (by omega) (by simpa using hz))
    simp [fiI, h0, ih]
theorem posI_at {l : List Int} {c : Int} {k : Nat} (h : l[k]? = some c) (hu : ∀ (j : Nat) y, j < k → l[j]? = some y → c ≠ y) : (k : Int) = posI l c := by
  unfold posI
  rw [if_pos (List.mem_of_getElem? h), fiI_at h hu]
theorem posI_none {l : List Int} {c : Int} (hu : ∀ (j : Nat) y, l[j]? = some y → c ≠ y) : -1 = posI l c := by
  unfold posI
  rw [if_neg (fun h => by obtain ⟨j, hj⟩ := List.mem_iff_getElem?.1 h; exact hu j c hj rfl)]

set_option maxRecDepth 100000 in
set_option maxHeartbeats 2000000 in
theorem index_int (l : List Int) (c : Int) (p : Option Addr) (n cp : Nat) (w : World) (hn : l.length = n) (hl : n ≤ 1000000000) (hr : Rd w p (ints l)) :
    Calls Try.prog 42 #[.slice p n cp, .int .i64 c] w fun e w' => e = .returned (.int .i64 (posI l c)) ∧ Below w.heap.size w w' := by
  have HN := Lib.hid hn
  have HR := Lib.hid hr
  clear hn hr
  go_enter Try.func42, Try.ntmps42
  go_wp2_with fail
  go_loopw [5, 8] (fun _ i wr => ∃ k : Nat, k ≤ n ∧ i = .int .i64 k ∧ Hid (∀ (j : Nat) y, j < k → l[j]? = some y → c ≠ y) ∧ Hid (Below w.heap.size w wr)) (fun _ i _ => n - (intOf i).toNat)
  case atStart => exact ⟨0, Nat.zero_le _, rfl, fun j y h => by omega, Lib.hid (by repeat (first | with_reducible exact Below.refl _ _ | with_reducible exact HB.out | with_reducible apply Below.drew | with_reducible apply bdN | with_reducible refine Below.alloc ?_ (by first | exact Nat.le_refl _ | with_reducible exact HB.out.size | omega | (simp; done) | (simp; omega) | (have := HB.out.size; simp at *; omega)) _ | with_reducible refine Below.setCell ?_ (by first | exact Nat.le_refl _ | with_reducible exact HB.out.size | omega | (simp; done) | (simp; omega) | (have := HB.out.size; simp at *; omega)) _))⟩
  case round =>
    obtain ⟨k, hk, rfl, HU, HB⟩ := hrel
    by_cases hlt : k < n
    · obtain ⟨b, o, x, rfl, hb, hx, c0⟩ := (HR.out.below HB.out).int (k := k) (by rw [HN.out]; exact hlt)
      have HX := Lib.hid hx
      clear hx
      have m0 : (0 : Int) ≤ (k : Int) := by omega
      have m1 : (k : Int) < (n : Int) := by omega
      by_cases hs : c = x
      · have HP := Lib.hid (show (k : Int) = posI l c from posI_at (by rw [hs]; exact HX.out) HU.out)
        subst hs
        go_wp2_with fail
        go_ret
        exact ⟨ret_int HP.out, HB.out⟩
      · have HU1 := Lib.hid (show ∀ (j : Nat) y, j < k + 1 → l[j]? = some y → c ≠ y from fun j y hj hy => by
          rcases Nat.lt_or_ge j k with h | h
          · exact HU.out j y h hy
          · obtain rfl : j = k := by omega
            have h1 := HX.out; rw [hy] at h1; injection h1 with h1; subst h1; exact hs)
        have hd : (c == x) = false := by simp [hs]
        clear hs
        go_wp2_with fail
        go_roundw
        case rel => exact ⟨k + 1, by omega, by go_num, HU1, HB⟩
        case measure => simp [intOf]; omega
    · obtain rfl : k = n := by omega
      have HP := Lib.hid (show -1 = posI l c from posI_none (fun j y hy => HU.out j y (by rw [← HN.out]; exact (List.getElem?_eq_some_iff.1 hy).1) hy))
      go_wp2_with fail
      go_ret
      exact ⟨ret_int HP.out, HB.out⟩

set_option maxRecDepth 100000 in
set_option maxHeartbeats 2000000 in
theorem contains_int (l : List Int) (c : Int) (p : Option Addr) (n cp : Nat) (w : World) (hn : l.length = n) (hl : n ≤ 1000000000) (hr : Rd w p (ints l)) :
    Calls Try.prog 23 #[.slice p n cp, .int .i64 c] w fun e w' => e = .returned (.bool (decide (c ∈ l))) ∧ Below w.heap.size w w' := by
  have HR := Lib.hid hr
  have HP := Lib.hid (fun w' (hw : Rd w' p (ints l)) => index_int l c p n cp w' hn hl hw)
  clear hn hr
  go_enter Try.func23, Try.ntmps23
  by_cases ht : c ∈ l
  · have HT := Lib.hid (show decide (c ∈ l) = true from decide_eq_true ht)
    have HQ := HP.out
    unfold posI at HQ
    rw [if_pos ht] at HQ
    obtain ⟨q, hq⟩ : ∃ q, fiI c l = q := ⟨_, rfl⟩
    rw [hq] at HQ
    have HQ2 := Lib.hid HQ
    clear HQ HP ht hq
    go_wp2_with fail
    refine ((HQ2.out _ (by repeat (first | with_reducible exact HR.out | with_reducible apply Rd.drewN | with_reducible apply Rd.drew | with_reducible apply Rd.alloc)))).mono ?_
    rintro e w1 ⟨rfl, b⟩
    have Sw1 := Lib.hid b.size
    have HB := Lib.hid (chain0 (w := w) (by repeat (first | with_reducible exact Below.refl _ _ | with_reducible exact HB.out | with_reducible apply Below.drew | with_reducible apply bdN | with_reducible refine Below.alloc ?_ (by first | exact Nat.le_refl _ | with_reducible exact HB.out.size | omega | (simp; done) | (simp; omega) | (have := HB.out.size; simp at *; omega)) _ | with_reducible refine Below.setCell ?_ (by first | exact Nat.le_refl _ | with_reducible exact HB.out.size | omega | (simp; done) | (simp; omega) | (have := HB.out.size; simp at *; omega)) _)) b)
    have HR := Lib.hid (Rd.below (by repeat (first | with_reducible exact HR.out | with_reducible apply Rd.drewN | with_reducible apply Rd.drew | with_reducible apply Rd.alloc)) b)
    clear b
    go_wp2_with fail
    go_ret
    exact ⟨ret_bool (by rw [HT.out]), by repeat (first | with_reducible exact Below.refl _ _ | with_reducible exact HB.out | with_reducible apply Below.drew | with_reducible apply bdN | with_reducible refine Below.alloc ?_ (by first | exact Nat.le_refl _ | with_reducible exact HB.out.size | omega | (simp; done) | (simp; omega) | (have := HB.out.size; simp at *; omega)) _ | with_reducible refine Below.setCell ?_ (by first | exact Nat.le_refl _ | with_reducible exact HB.out.size | omega | (simp; done) | (simp; omega) | (have := HB.out.size; simp at *; omega)) _)⟩
  · have HT := Lib.hid (show decide (c ∈ l) = false from decide_eq_false ht)
    have HQ := HP.out
    unfold posI at HQ
    rw [if_neg ht] at HQ
    have HQ2 := Lib.hid HQ
    clear HQ HP ht
    go_wp2_with fail
    refine ((HQ2.out _ (by repeat (first | with_reducible exact HR.out | with_reducible apply Rd.drewN | with_reducible apply Rd.drew | with_reducible apply Rd.alloc)))).mono ?_
    rintro e w1 ⟨rfl, b⟩
    have Sw1 := Lib.hid b.size
    have HB := Lib.hid (chain0 (w := w) (by repeat (first | with_reducible exact Below.refl _ _ | with_reducible exact HB.out | with_reducible apply Below.drew | with_reducible apply bdN | with_reducible refine Below.alloc ?_ (by first | exact Nat.le_refl _ | with_reducible exact HB.out.size | omega | (simp; done) | (simp; omega) | (have := HB.out.size; simp at *; omega)) _ | with_reducible refine Below.setCell ?_ (by first | exact Nat.le_refl _ | with_reducible exact HB.out.size | omega | (simp; done) | (simp; omega) | (have := HB.out.size; simp at *; omega)) _)) b)
    have HR := Lib.hid (Rd.below (by repeat (first | with_reducible exact HR.out | with_reducible apply Rd.drewN | with_reducible apply Rd.drew | with_reducible apply Rd.alloc)) b)
    clear b
    go_wp2_with fail
    go_ret
    exact ⟨ret_bool HT.out.symm, by repeat (first | with_reducible exact Below.refl _ _ | with_reducible exact HB.out | with_reducible apply Below.drew | with_reducible apply bdN | with_reducible refine Below.alloc ?_ (by first | exact Nat.le_refl _ | with_reducible exact HB.out.size | omega | (simp; done) | (simp; omega) | (have := HB.out.size; simp at *; omega)) _ | with_reducible refine Below.setCell ?_ (by first | exact Nat.le_refl _ | with_reducible exact HB.out.size | omega | (simp; done) | (simp; omega) | (have := HB.out.size; simp at *; omega)) _)⟩

end Go.Proofs.Ytnibkipepmakgaa.maps
