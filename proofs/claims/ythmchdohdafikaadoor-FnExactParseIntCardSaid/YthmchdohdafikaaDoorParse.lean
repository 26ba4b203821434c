/- Plain facts: what a decimal numeral spells; when a text is the numeral of a number. No program. -/
import Derived.Lib.ItoaNum
import Derived.Lib.ItoaMem
import Derived.Lib.Atoi
import Derived.Lib.AtoiAll
import Derived.Lib.AtoiTie
namespace Go.Proofs.YthmchdohdafikaaDoor.parse
open Go

theorem decFrom_snoc (l : List UInt8) (b : UInt8) : ∀ acc, Lib.decFrom acc (l ++ [b]) = (Lib.decFrom acc l).bind fun n => (Lib.digitVal b).map fun d => n * 10 + d := by
  induction l with
  | nil => intro acc; simp [Lib.decFrom]; cases Lib.digitVal b <;> simp
  | cons c l ih =>
    intro acc
    simp only [List.cons_append, Lib.decFrom]
    cases Lib.digitVal c with
    | none => simp
    | some d => exact ih _
theorem digit_val (i : Nat) (h : i < 10) : Lib.digitVal (UInt8.ofNat (48 + i)) = some i := by
  unfold Lib.digitVal
  have : (UInt8.ofNat (48 + i)).toNat = 48 + i := by simp; omega
  rw [this, if_pos (by omega)]
  congr 1; omega
theorem dec_digits (k : Nat) : ∀ u, u ≤ k → Lib.decFrom 0 (Lib.decDigits u) = some u := by
  induction k with
  | zero => intro u h; obtain rfl : u = 0 := by omega
            rw [Lib.decDigits_one (by omega)]; simp [Lib.decFrom, Lib.digitVal]
  | succ k ih =>
    intro u h
    by_cases hs : u < 10
    · rw [Lib.decDigits_one hs]
      simp only [Lib.decFrom, digit_val u hs]; simp
    · rw [Lib.decDigits, dif_neg hs, decFrom_snoc, ih (u / 10) (by omega), digit_val (u % 10) (by omega)]
      simp; omega
theorem dec_ne (u : Nat) : Lib.decDigits u ≠ [] := by
  rw [Lib.decDigits]; split <;> simp
theorem dec_mem (k : Nat) : ∀ u, u ≤ k → ∀ b ∈ Lib.decDigits u, 48 ≤ b.toNat ∧ b.toNat ≤ 57 := by
  have one : ∀ i, i < 10 → 48 ≤ (UInt8.ofNat (48 + i)).toNat ∧ (UInt8.ofNat (48 + i)).toNat ≤ 57 := by
    intro i hi
    have : (UInt8.ofNat (48 + i)).toNat = 48 + i := by simp; omega
    omega
  induction k with
  | zero => intro u h b hb; obtain rfl : u = 0 := by omega
            rw [Lib.decDigits_one (by omega)] at hb; simp only [List.mem_singleton] at hb; rw [hb]; exact one 0 (by omega)
  | succ k ih =>
    intro u h b hb
    by_cases hs : u < 10
    · rw [Lib.decDigits_one hs] at hb; simp only [List.mem_singleton] at hb; rw [hb]; exact one u hs
    · rw [Lib.decDigits, dif_neg hs, List.mem_append] at hb
      rcases hb with hb | hb
      · exact ih _ (by omega) b hb
      · simp only [List.mem_singleton] at hb; rw [hb]; exact one _ (by omega)
theorem n_digits (k : Nat) : ∀ u, u < 10 ^ k → 1 ≤ k → Lib.nDigits u ≤ k := by
  induction k with
  | zero => intro u _ h; omega
  | succ k ih =>
    intro u h _
    by_cases hs : u < 10
    · rw [Lib.nDigits_small hs]; omega
    · rw [Lib.nDigits_big hs]
      have hk : 1 ≤ k := by
        rcases Nat.eq_zero_or_pos k with rfl | h'
        · simp at h; omega
        · exact h'
      have := ih (u / 10) (by rw [Nat.pow_succ] at h; omega) hk
      omega
theorem dec_six (u : Nat) (h : u ≤ 999999) : (Lib.decDigits u).length ≤ 6 := by
  rw [Lib.decDigits_length]; exact n_digits 6 u (by omega) (by omega)
theorem dec_pos (u : Nat) : 1 ≤ (Lib.decDigits u).length := by
  have := dec_ne u
  cases h : Lib.decDigits u
  · exact absurd h this
  · simp

/-- A text's head, its sign taken off. -/
theorem itoa_cases (v : Int) : (0 ≤ v ∧ Lib.itoa v = Lib.decDigits v.natAbs) ∨ (v < 0 ∧ Lib.itoa v = 45 :: Lib.decDigits v.natAbs) := by
  by_cases h : v < 0
  · right; exact ⟨h, by unfold Lib.itoa; rw [if_pos h]⟩
  · left; refine ⟨by omega, ?_⟩; unfold Lib.itoa; rw [if_neg h]; congr 1; omega

theorem atoi_itoa (v : Int) (h0 : -999999 ≤ v) (h1 : v ≤ 999999) : Lib.atoiAll (Lib.itoa v) = .ok v := by
  have hd := dec_digits v.natAbs v.natAbs (Nat.le_refl _)
  have hl : (Lib.itoa v).length ≤ 18 := by
    have := dec_six v.natAbs (by omega)
    rcases itoa_cases v with ⟨_, h⟩ | ⟨_, h⟩
    · rw [h]; omega
    · rw [h, List.length_cons]; omega
  rw [Lib.atoiAll_short _ hl]
  have ha : Lib.atoi (Lib.itoa v) = some v := by
    rcases itoa_cases v with ⟨hv, h⟩ | ⟨hv, h⟩
    · rw [h]
      cases hc : Lib.decDigits v.natAbs with
      | nil => exact absurd hc (dec_ne _)
      | cons b r =>
        have hb := dec_mem v.natAbs v.natAbs (Nat.le_refl _) b (by rw [hc]; simp)
        rw [hc] at hd
        have h45 : (b == 45) = false := by rw [beq_eq_false_iff_ne]; rintro rfl; simp at hb
        have h43 : (b == 43) = false := by rw [beq_eq_false_iff_ne]; rintro rfl; simp at hb
        simp only [Lib.atoi, h45, h43, Lib.decNat, List.isEmpty_cons, hd]
        simp; omega
    · rw [h]
      simp only [Lib.atoi, Lib.decNat]
      have : (Lib.decDigits v.natAbs).isEmpty = false := by
        cases hc : Lib.decDigits v.natAbs
        · exact absurd hc (dec_ne _)
        · rfl
      simp [this, hd]; omega
  rw [ha]; rfl

/-- When a text is a numeral of the document's. -/
def Good (l : List UInt8) (v : Int) : Prop := -999999 ≤ v ∧ v ≤ 999999 ∧ Lib.itoa v = l
theorem good_unique {l : List UInt8} {u v : Int} (h : Good l u) (k : Good l v) : u = v := by
  have a := atoi_itoa u h.1 h.2.1
  rw [h.2.2, ← k.2.2, atoi_itoa v k.1 k.2.1] at a
  exact (Lib.NumEnd.ok.inj a).symm
/-- The digits of a numeral with a sign ahead, and without. -/
theorem good_neg {r : List UInt8} {v : Int} (h : Good (45 :: r) v) : v < 0 ∧ r = Lib.decDigits v.natAbs := by
  rcases itoa_cases v with ⟨hv, e⟩ | ⟨hv, e⟩
  · exfalso
    have := dec_mem v.natAbs v.natAbs (Nat.le_refl _) 45 (by rw [← e, h.2.2]; simp)
    simp at this
  · rw [h.2.2] at e; exact ⟨hv, by simpa using e⟩
theorem good_pos {l : List UInt8} {v : Int} (h : Good l v) (hn : ∀ r, l = 45 :: r → r = []) : 0 ≤ v ∧ l = Lib.decDigits v.natAbs := by
  rcases itoa_cases v with ⟨hv, e⟩ | ⟨hv, e⟩
  · rw [h.2.2] at e; exact ⟨hv, e⟩
  · rw [h.2.2] at e
    exact absurd (hn _ e) (dec_ne _)
end Go.Proofs.YthmchdohdafikaaDoor.parse
