/- The decimal numeral of the model: spec.l1Num at every number from 0 to 1000000000. -/
import Derived.Test.YthmchdohdafikaaDoorRows
import Derived.WalkKit
import Derived.ProofKit
import Derived.Deep.QuietTactic
import Derived.BigQuiet
import Derived.Lib.ItoaNum
import Derived.Lib.ItoaMem
import Derived.IntWalk
import Derived.Lib.Hide
import Derived.Lib.ItoaLen
import Derived.Outline
namespace Go.Proofs.YthmchdohdafikaaDoor.num
open Go.RowKit

theorem ret_str {a b : List UInt8} (h : a = b) : Ending.returned (.string ⟨a.toArray⟩) = .returned (.string ⟨b.toArray⟩) := by rw [h]
theorem dec_len (u : Nat) (h : u ≤ 1000000000) : (Lib.decDigits u).length ≤ 21 := by
  have := Lib.itoa_length_le (u : Int) (by omega) (by omega)
  rwa [Lib.itoa_nonneg] at this
theorem ret_str2 {a b c : List UInt8} (h : a ++ b = c) : Ending.returned (.string (⟨a.toArray⟩ ++ ⟨b.toArray⟩)) = .returned (.string ⟨c.toArray⟩) := by
  rw [← h]; congr 2
theorem digit_run (i : Int) (h0 : 0 ≤ i) (h1 : i < 10) (w : World) :
    Sem.run Tryd.prog (Instr.slice 9 (Value.string { data := #[48, 49, 50, 51, 52, 53, 54, 55, 56, 57] }) (some (Value.int IntKind.i64 i)) (some (Value.int IntKind.i64 (i + 1))) none) w = .ok (.string { data := #[UInt8.ofNat (48 + i.toNat)] }) w := by
  have h : i = 0 ∨ i = 1 ∨ i = 2 ∨ i = 3 ∨ i = 4 ∨ i = 5 ∨ i = 6 ∨ i = 7 ∨ i = 8 ∨ i = 9 := by omega
  rcases h with rfl | rfl | rfl | rfl | rfl | rfl | rfl | rfl | rfl | rfl <;> rfl

theorem num_small (n : Nat) (h : n < 10) (w : World) :
    Calls Tryd.prog 25 #[.int .i64 n] w fun e w' => e = .returned (.string ⟨(Lib.decDigits n).toArray⟩) ∧ ∃ j, w' = w.drewN j := by
  have hd := fun w => digit_run n (by omega) (by omega) w
  have hr : Hid (Lib.decDigits n = [UInt8.ofNat (48 + n)]) := Lib.decDigits_one h
  go_enter Tryd.func25, Tryd.ntmps25
  go_wp2_with fail
  go_ret
  exact ⟨ret_str (by rw [hr.out]; simp), 0, rfl⟩

set_option maxHeartbeats 400000 in
theorem num_any (k : Nat) : ∀ (n : Nat) (w : World), n ≤ k → n ≤ 1000000000 →
    Calls Tryd.prog 25 #[.int .i64 n] w fun e w' => e = .returned (.string ⟨(Lib.decDigits n).toArray⟩) ∧ ∃ j, w' = w.drewN j := by
  induction k with
  | zero =>
    intro n w hk hn
    exact num_small n (by omega) w
  | succ k ih =>
    intro n w hk hn
    by_cases hs : n < 10
    · exact num_small n hs w
    · have hr : Hid (Lib.decDigits n = Lib.decDigits (n / 10) ++ [UInt8.ofNat (48 + n % 10)]) := by show _ = _; rw [Lib.decDigits, dif_neg hs]
      have hd := fun w => digit_run ((n : Int) % 10) (by omega) (by omega) w
      have hw : IntKind.i64.wrap ((n : Int) % 10 + 1) = (n : Int) % 10 + 1 := IntWalk.i64_in _ (by omega)
      have hq : IntKind.i64.wrap ((n : Int) / 10) = (n : Int) / 10 := IntWalk.i64_in _ (by omega)
      have hm : ((n : Int).tmod 10) = (n : Int) % 10 := Int.tmod_eq_emod_of_nonneg (by omega)
      have hl : ¬ 9223372036854775807 < (Lib.decDigits (n / 10)).length + 1 := by have := dec_len (n / 10) (by omega); omega
      have hc : ∀ w, Calls Tryd.prog 25 #[.int .i64 ((n : Int) / 10)] w fun e w' => e = .returned (.string ⟨(Lib.decDigits (n / 10)).toArray⟩) ∧ ∃ j, w' = w.drewN j := fun w => ih (n / 10) w (by omega) (by omega)
      have HC := Lib.hid hc
      clear hc ih
      go_enter Tryd.func25, Tryd.ntmps25
      go_wp2_with fail
      go_quiet ((go_at_call 25; exact Calls.quiet_of (HC.out _)))
      go_wp2_with fail
      go_ret
      exact ⟨ret_str2 (by rw [hr.out]; simp), _, rfl⟩

theorem num_nonneg (n : Int) (w : World) (h0 : 0 ≤ n) (h1 : n ≤ 1000000000) :
    Calls Tryd.prog 25 #[.int .i64 n] w fun e w' => e = .returned (.string ⟨(Lib.itoa n).toArray⟩) ∧ ∃ j, w' = w.drewN j := by
  obtain ⟨m, rfl⟩ := Int.eq_ofNat_of_zero_le h0
  rw [Lib.itoa_nonneg]
  exact num_any m m w (Nat.le_refl _) (by omega)

theorem itoa_digit (m : Nat) (h : m < 10) : Lib.itoa (m : Int) = [UInt8.ofNat (48 + m)] := by rw [Lib.itoa_nonneg, Lib.decDigits_one h]

set_option maxHeartbeats 400000 in
theorem neg_any (k : Nat) : ∀ (m : Nat) (w : World), m ≤ k → 1 ≤ m → m ≤ 1000000000 →
    Calls Tryd.prog 25 #[.int .i64 (-(m : Int))] w fun e w' => e = .returned (.string ⟨(45 :: Lib.decDigits m).toArray⟩) ∧ ∃ j, w' = w.drewN j := by
  induction k with
  | zero => intro m w hk h1 h2; omega
  | succ k ih =>
    intro m w hk h1 h2
    by_cases hs : m < 10
    · have hc := num_small m hs
      have HC := Lib.hid hc
      have hl : ¬ 9223372036854775807 < 1 + (Lib.decDigits m).length := by have := dec_len m (by omega); omega
      clear hc ih
      go_enter Tryd.func25, Tryd.ntmps25
      go_wp2_with fail
      refine (HC.out _).mono ?_
      rintro e w1 ⟨rfl, j, rfl⟩
      go_wp2_with fail
      go_ret
      exact ⟨ret_str2 (a := [45]) rfl, _, rfl⟩
    · have hr : Hid (Lib.decDigits m = Lib.decDigits (m / 10) ++ [UInt8.ofNat (48 + m % 10)]) := by show _ = _; rw [Lib.decDigits, dif_neg hs]
      have hd : (-(m : Int)).tdiv 10 = -((m : Int) / 10) := by rw [Int.neg_tdiv]; rw [Int.tdiv_eq_ediv_of_nonneg (by omega)]
      have hm : (-(m : Int)).tmod 10 = -((m : Int) % 10) := by rw [Int.neg_tmod]; rw [Int.tmod_eq_emod_of_nonneg (by omega)]
      have hc : ∀ w, Calls Tryd.prog 25 #[.int .i64 (-((m : Int) / 10))] w fun e w' => e = .returned (.string ⟨(45 :: Lib.decDigits (m / 10)).toArray⟩) ∧ ∃ j, w' = w.drewN j := fun w => ih (m / 10) w (by omega) (by omega) (by omega)
      have HC := Lib.hid hc
      have h2 : ∀ w, Calls Tryd.prog 25 #[.int .i64 ((m : Int) % 10)] w fun e w' => e = .returned (.string ⟨(Lib.decDigits (m % 10)).toArray⟩) ∧ ∃ j, w' = w.drewN j := fun w => num_small (m % 10) (by omega) w
      have HD := Lib.hid h2
      have hl : ¬ 9223372036854775807 < (Lib.decDigits (m / 10)).length + 1 + (Lib.decDigits (m % 10)).length := by have := dec_len (m / 10) (by omega); have := dec_len (m % 10) (by omega); omega
      clear hc ih h2
      go_enter Tryd.func25, Tryd.ntmps25
      go_wp2_with fail
      refine (HC.out _).mono ?_
      rintro e w1 ⟨rfl, j, rfl⟩
      go_wp2_with fail
      refine (HD.out _).mono ?_
      rintro e w1 ⟨rfl, i, rfl⟩
      go_wp2_with fail
      go_ret
      exact ⟨ret_str2 (a := 45 :: Lib.decDigits (m / 10)) (b := Lib.decDigits (m % 10)) (by rw [hr.out, Lib.decDigits_one (i := m % 10) (by omega)]; rfl), _, rfl⟩

theorem num_neg (n : Int) (w : World) (h0 : n < 0) (h1 : -1000000000 ≤ n) :
    Calls Tryd.prog 25 #[.int .i64 n] w fun e w' => e = .returned (.string ⟨(Lib.itoa n).toArray⟩) ∧ ∃ j, w' = w.drewN j := by
  obtain ⟨m, hm⟩ := Int.eq_ofNat_of_zero_le (a := -n) (by omega)
  obtain rfl : n = -(m : Int) := by omega
  rw [Lib.itoa_neg m (by omega)]
  exact neg_any m m w (Nat.le_refl _) (by omega) (by omega)

/-- spec.l1Num is the decimal numeral, at every number whose size is at most 1000000000. -/
theorem num_all (n : Int) (w : World) (h0 : -1000000000 ≤ n) (h1 : n ≤ 1000000000) :
    Calls Tryd.prog 25 #[.int .i64 n] w fun e w' => e = .returned (.string ⟨(Lib.itoa n).toArray⟩) ∧ ∃ j, w' = w.drewN j := by
  by_cases h : n < 0
  · exact num_neg n w h h0
  · exact num_nonneg n w (by omega) h1
end Go.Proofs.YthmchdohdafikaaDoor.num
