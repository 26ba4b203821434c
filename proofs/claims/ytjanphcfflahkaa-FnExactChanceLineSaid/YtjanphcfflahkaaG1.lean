/- Choices that are counted, and fractions: mathematics. -/
import Derived.Test.YtjanphcfflahkaaCd
namespace Go.Proofs.Ytjanphcfflahkaa.chance
open Go.RowKit
open cards
set_option linter.unusedVariables false

/-- The number of choices of k of n things. -/
def cho : Nat → Nat → Nat
  | _, 0 => 1
  | 0, _ + 1 => 0
  | n + 1, k + 1 => cho n k + cho n (k + 1)
theorem cho_zero (n : Nat) : cho n 0 = 1 := by cases n <;> rfl
theorem cho_none : ∀ {n k : Nat}, n < k → cho n k = 0
  | _, 0, h => by omega
  | 0, k + 1, _ => rfl
  | n + 1, k + 1, h => by rw [cho, cho_none (by omega), cho_none (by omega)]
theorem cho_pos : ∀ {n k : Nat}, k ≤ n → 0 < cho n k
  | n, 0, _ => by rw [cho_zero]; omega
  | 0, k + 1, h => by omega
  | n + 1, k + 1, h => by have := cho_pos (n := n) (k := k) (by omega); rw [cho]; omega
theorem cho_one : ∀ n : Nat, cho n 1 = n
  | 0 => rfl
  | n + 1 => by rw [cho, cho_zero, cho_one n]; omega
theorem cho_mul : ∀ n k : Nat, cho n (k + 1) * (k + 1) = cho n k * (n - k)
  | 0, k => by rw [show cho 0 (k + 1) = 0 from rfl]; simp
  | n + 1, 0 => by rw [cho_one, cho_zero]; omega
  | n + 1, k + 1 => by
    have h1 := cho_mul n (k + 1)
    have h0 := cho_mul n k
    rw [show cho (n + 1) (k + 1 + 1) = cho n (k + 1) + cho n (k + 1 + 1) from rfl, show cho (n + 1) (k + 1) = cho n k + cho n (k + 1) from rfl, Nat.add_mul, h1, Nat.add_mul]
    rw [show n + 1 - (k + 1) = n - k by omega, ← h0, ← Nat.mul_add, ← Nat.mul_add]
    rcases Nat.lt_or_ge n (k + 1) with h | h
    · rw [cho_none h]; simp
    · rw [show k + 1 + 1 + (n - (k + 1)) = k + 1 + (n - k) by omega]
theorem cho_le : ∀ n k : Nat, cho n k ≤ 2 ^ n
  | n, 0 => by rw [cho_zero]; exact Nat.one_le_two_pow
  | 0, k + 1 => by simp [cho]
  | n + 1, k + 1 => by have := cho_le n k; have := cho_le n (k + 1); rw [cho, Nat.pow_succ]; omega
/-- One step of the product by which the model tells it. -/
theorem cho_step (n k : Nat) : ((cho n k : Nat) : Int) * ((n : Int) - k) = ((cho n (k + 1) * (k + 1) : Nat) : Int) := by
  rw [cho_mul]
  rcases Nat.lt_or_ge n k with h | h
  · rw [cho_none h]; simp
  · rw [Int.natCast_mul, Int.ofNat_sub h]
theorem cho_div (n k : Nat) : (((cho n (k + 1) * (k + 1) : Nat) : Int)).tdiv ((k : Int) + 1) = (cho n (k + 1) : Int) := by
  rw [show ((k : Int) + 1) = ((k + 1 : Nat) : Int) by omega, Int.natCast_mul]
  exact Int.mul_tdiv_cancel _ (by omega)

/-- What f counts, of all choices of n of l behind b. -/
def tot (f : List Cd → Nat) : Nat → List Cd → List Cd → Nat
  | 0, _, b => f b
  | _ + 1, [], _ => 0
  | n + 1, x :: r, b => tot f n r (b ++ [x]) + tot f (n + 1) r b
theorem tot_zero (f : List Cd → Nat) (l b : List Cd) : tot f 0 l b = f b := by cases l <;> rfl
theorem tot_short (f : List Cd → Nat) : ∀ {n : Nat} {l b : List Cd}, l.length < n → tot f n l b = 0
  | 0, _, _, h => by omega
  | n + 1, [], _, _ => rfl
  | n + 1, x :: r, b, h => by simp at h; rw [tot, tot_short f (by omega), tot_short f (by omega)]
theorem tot_le (f : List Cd → Nat) (M : Nat) (hM : ∀ d, f d ≤ M) : ∀ (n : Nat) (l b : List Cd), tot f n l b ≤ M * cho l.length n
  | 0, l, b => by rw [tot_zero, cho_zero, Nat.mul_one]; exact hM b
  | n + 1, [], b => by simp [tot]
  | n + 1, x :: r, b => by
    have h1 := tot_le f M hM n r (b ++ [x])
    have h2 := tot_le f M hM (n + 1) r b
    rw [tot, List.length_cons, cho, Nat.mul_add]; omega
theorem tot_congr (f g : List Cd → Nat) : ∀ (n : Nat) (l b : List Cd), (∀ d : List Cd, d.Sublist (b ++ l) → d.length = b.length + n → f d = g d) → tot f n l b = tot g n l b
  | 0, l, b, h => by rw [tot_zero, tot_zero]; exact h b (List.sublist_append_left b l) rfl
  | n + 1, [], b, h => rfl
  | n + 1, x :: r, b, h => by
    rw [tot, tot, tot_congr f g n r (b ++ [x]) (fun d hd hl => h d (by simpa using hd) (by simp at hl; omega)), tot_congr f g (n + 1) r b (fun d hd hl => h d (hd.trans (List.Sublist.append (List.Sublist.refl b) (List.sublist_cons_self x r))) hl)]

/-- A fraction without a common divisor. -/
def frac (c a : Nat) : Int × Int := (((c / Nat.gcd c a : Nat) : Int), ((a / Nat.gcd c a : Nat) : Int))
theorem frac_mul (c a m : Nat) (hm : 0 < m) : frac (c * m) (a * m) = frac c a := by
  unfold frac
  rw [Nat.gcd_mul_right, Nat.mul_div_mul_right _ _ hm, Nat.mul_div_mul_right _ _ hm]
theorem frac_eq {c a c' a' : Nat} (ha : 0 < a) (ha' : 0 < a') (h : c * a' = c' * a) : frac c a = frac c' a' := by
  rw [← frac_mul c a a' ha', ← frac_mul c' a' a ha, h, Nat.mul_comm a a']
/-- A whole number more. -/
theorem frac_more (c a L : Nat) (ha : 0 < a) : frac (L * a + c) a = ((frac c a).1 + L * (frac c a).2, (frac c a).2) := by
  have hg : Nat.gcd (L * a + c) a = Nat.gcd c a := by rw [Nat.add_comm]; exact Nat.gcd_add_mul_right_left _ _ _
  have hp : 0 < Nat.gcd c a := Nat.gcd_pos_of_pos_right _ ha
  obtain ⟨q, hq⟩ := Nat.gcd_dvd_right c a
  obtain ⟨s, hs⟩ := Nat.gcd_dvd_left c a
  unfold frac
  rw [hg]
  have h1 : a / Nat.gcd c a = q := Nat.div_eq_of_eq_mul_right hp hq
  have h2 : c / Nat.gcd c a = s := Nat.div_eq_of_eq_mul_right hp hs
  have h3 : (L * a + c) / Nat.gcd c a = L * q + s := Nat.div_eq_of_eq_mul_right hp (by
    rw [Nat.mul_add, ← hs, Nat.mul_left_comm, ← hq])
  simp only [h1, h2, h3]
  rw [Int.natCast_add, Int.natCast_mul, Int.add_comm]
end Go.Proofs.Ytjanphcfflahkaa.chance
