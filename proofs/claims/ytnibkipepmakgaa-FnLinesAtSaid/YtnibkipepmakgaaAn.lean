/- Anchors: twice the pairs are all cards just if each card has its partner. -/
import Derived.Test.YtnibkipepmakgaaCa
namespace Go.Proofs.Ytnibkipepmakgaa.cards
open Go.RowKit
set_option linter.unusedVariables false

theorem line_sym {x y c : Cd} (hx : x.ok = true) (hy : y.ok = true) (hc : c.ok = true) : line x y c = line y x c := by
  rw [line_third hx hy hc, line_third hy hx hc]
  obtain ⟨⟨x1, x2⟩, ⟨x3, x4⟩, ⟨x5, x6⟩, x7, x8⟩ := Cd.bd hx
  obtain ⟨⟨y1, y2⟩, ⟨y3, y4⟩, ⟨y5, y6⟩, y7, y8⟩ := Cd.bd hy
  obtain ⟨⟨c1, c2⟩, ⟨c3, c4⟩, ⟨c5, c6⟩, c7, c8⟩ := Cd.bd hc
  rw [Bool.eq_iff_iff, Bool.and_eq_true, Bool.and_eq_true, Bool.not_eq_true', Bool.not_eq_true', same_t, same_t, same_f, same_f]
  show (¬ (x.a = c.a ∧ x.b = c.b ∧ x.c = c.c ∧ x.d = c.d) ∧ y.a = (6 - c.a - x.a) % 3 ∧ y.b = (6 - c.b - x.b) % 3 ∧ y.c = (6 - c.c - x.c) % 3 ∧ y.d = (6 - c.d - x.d) % 3) ↔ (¬ (y.a = c.a ∧ y.b = c.b ∧ y.c = c.c ∧ y.d = c.d) ∧ x.a = (6 - c.a - y.a) % 3 ∧ x.b = (6 - c.b - y.b) % 3 ∧ x.c = (6 - c.c - y.c) % 3 ∧ x.d = (6 - c.d - y.d) % 3)
  constructor
  · rintro ⟨h1, h2, h3, h4, h5⟩
    exact ⟨fun h => h1 (by omega), by omega, by omega, by omega, by omega⟩
  · rintro ⟨h1, h2, h3, h4, h5⟩
    exact ⟨fun h => h1 (by omega), by omega, by omega, by omega, by omega⟩
/-- The third card of c and another card is a third one. -/
theorem third_ne {x c : Cd} (hx : x.ok = true) (hc : c.ok = true) (h : same x c = false) : third c x ≠ x := by
  intro e
  obtain ⟨⟨x1, x2⟩, ⟨x3, x4⟩, ⟨x5, x6⟩, x7, x8⟩ := Cd.bd hx
  obtain ⟨⟨c1, c2⟩, ⟨c3, c4⟩, ⟨c5, c6⟩, c7, c8⟩ := Cd.bd hc
  have ea : (6 - c.a - x.a) % 3 = x.a := congrArg Cd.a e
  have eb : (6 - c.b - x.b) % 3 = x.b := congrArg Cd.b e
  have ec : (6 - c.c - x.c) % 3 = x.c := congrArg Cd.c e
  have ed : (6 - c.d - x.d) % 3 = x.d := congrArg Cd.d e
  exact same_f.1 h (by omega)
/-- Has the card at i its partner? -/
def mate (l : List Cd) (c : Cd) (i : Nat) : Bool := match l[i]? with
  | some x => !same x c && there l (third c x)
  | none => false
/-- Has the card at m its partner below k? -/
def down (l : List Cd) (c : Cd) (m k : Nat) : Bool := match l[m]? with
  | some x => !same x c && there l (third c x) && decide (less l (third c x) < k)
  | none => false
/-- How many of the first i cards have their partner. -/
def mates (l : List Cd) (c : Cd) : Nat → Int
  | 0 => 0
  | i + 1 => mates l c i + one (mate l c i)
/-- The pairs among the first k cards whose first is below i. -/
def upto (l : List Cd) (c : Cd) (k : Nat) : Nat → Int
  | 0 => 0
  | i + 1 => upto l c k i + one (lineTo l c i k)
theorem upto_all (l : List Cd) (c : Cd) : ∀ i : Nat, upto l c l.length i = thr l c i
  | 0 => rfl
  | i + 1 => by simp only [upto, thr]; rw [upto_all l c i]
theorem down_step {l : List Cd} {c x y : Cd} {i m : Nat} (hs : sorted l) (hok : l.all Cd.ok = true) (hc : c.ok = true) (hx : l[i]? = some x) (hy : l[m]? = some y) :
    one (down l c m (i + 1)) = one (down l c m i) + one (line x y c) := by
  have ox := ok_at hok hx
  have oy := ok_at hok hy
  rw [line_sym ox oy hc, line_third oy ox hc, same_num ox (third_ok _ _)]
  have hp := place_is (t := third c y) hs hx
  unfold down
  rw [hy]
  simp only
  cases h1 : same y c
  · by_cases h2 : num x = num (third c y)
    · obtain ⟨h3, h4⟩ := hp.1 h2
      rw [h3, h4, decide_eq_true h2]
      simp [one]
    · rw [decide_eq_false h2]
      cases h3 : there l (third c y)
      · rfl
      · have h4 : less l (third c y) ≠ i := fun e => h2 (hp.2 ⟨h3, e⟩)
        have e : decide (less l (third c y) < i + 1) = decide (less l (third c y) < i) := by rw [Bool.eq_iff_iff]; simp; omega
        rw [e]; simp [one]
  · rfl
theorem down_zero (l : List Cd) (c : Cd) (m : Nat) : down l c m 0 = false := by unfold down; split <;> simp
/-- One card more: the pairs that it is the greater one of. -/
theorem upto_step {l : List Cd} {c y : Cd} {m : Nat} (hs : sorted l) (hok : l.all Cd.ok = true) (hc : c.ok = true) (hy : l[m]? = some y) : ∀ i : Nat, i ≤ m →
    upto l c (m + 1) i = upto l c m i + one (down l c m i)
  | 0, _ => by simp [upto, down_zero, one]
  | i + 1, h => by
    have hm := (List.getElem?_eq_some_iff.1 hy).1
    have hx : l[i]? = some l[i] := List.getElem?_eq_getElem (by omega)
    have h1 := upto_step hs hok hc hy i (by omega)
    have h2 := lineTo_step hs hok hc hx hy (by omega : i < m)
    have h3 := down_step (m := m) hs hok hc hx hy
    simp only [upto]
    omega
def downs (l : List Cd) (c : Cd) : Nat → Int
  | 0 => 0
  | m + 1 => downs l c m + one (down l c m m)
theorem upto_downs {l : List Cd} {c : Cd} (hs : sorted l) (hok : l.all Cd.ok = true) (hc : c.ok = true) : ∀ m : Nat, m ≤ l.length → upto l c m m = downs l c m
  | 0, _ => rfl
  | m + 1, h => by
    have hy : l[m]? = some l[m] := List.getElem?_eq_getElem (by omega)
    have h1 := upto_step hs hok hc hy m (Nat.le_refl _)
    have h2 := upto_downs hs hok hc m (by omega)
    have h3 : lineTo l c m (m + 1) = false := lineTo_zero (Nat.le_refl _)
    have h4 : one false = 0 := rfl
    simp only [upto, downs]
    rw [h3]
    omega
theorem mate_parts {l : List Cd} {c : Cd} {i : Nat} (hs : sorted l) (hok : l.all Cd.ok = true) (hc : c.ok = true) (hi : i < l.length) : one (mate l c i) = one (lineTo l c i l.length) + one (down l c i i) := by
  have hx : l[i]? = some l[i] := List.getElem?_eq_getElem hi
  rw [lineTo_all hx]
  unfold mate down
  rw [hx]
  simp only
  cases h1 : same l[i] c
  · cases h2 : there l (third c l[i])
    · rfl
    · have h3 : less l (third c l[i]) ≠ i := fun e => third_ne (ok_at hok hx) hc h1 (num_inj (third_ok _ _) (ok_at hok hx) ((place_is (t := third c l[i]) hs hx).2 ⟨h2, e⟩).symm)
      by_cases h4 : i < less l (third c l[i])
      · have : ¬ less l (third c l[i]) < i := by omega
        simp [one, h4, this]
      · have : less l (third c l[i]) < i := by omega
        simp [one, h4, this]
  · rfl
theorem mates_parts {l : List Cd} {c : Cd} (hs : sorted l) (hok : l.all Cd.ok = true) (hc : c.ok = true) : ∀ i : Nat, i ≤ l.length → mates l c i = thr l c i + downs l c i
  | 0, _ => rfl
  | i + 1, h => by
    have h1 := mates_parts hs hok hc i (by omega)
    have h2 := mate_parts hs hok hc (by omega : i < l.length)
    simp only [mates, thr, downs]
    omega
theorem mates_twice {l : List Cd} {c : Cd} {n : Nat} (hn : l.length = n) (hs : sorted l) (hok : l.all Cd.ok = true) (hc : c.ok = true) : mates l c n = 2 * thr l c n := by
  subst hn
  have h1 := mates_parts hs hok hc l.length (Nat.le_refl _)
  have h2 := upto_downs hs hok hc l.length (Nat.le_refl _)
  have h3 := upto_all l c l.length
  omega
theorem mates_le (l : List Cd) (c : Cd) : ∀ i : Nat, mates l c i ≤ i ∧ (mates l c i = i ↔ ∀ k, k < i → mate l c k = true)
  | 0 => by simp [mates]
  | i + 1 => by
    obtain ⟨h1, h2⟩ := mates_le l c i
    have h3 := one_01 (mate l c i)
    simp only [mates]
    refine ⟨by omega, ?_⟩
    constructor
    · intro h k hk
      have e1 : mates l c i = i := by omega
      have e2 : one (mate l c i) = one true := by rw [show one true = 1 from rfl]; omega
      by_cases hki : k < i
      · exact h2.1 e1 k hki
      · obtain rfl : k = i := by omega
        exact one_inj e2
    · intro h
      have e1 := h2.2 (fun k hk => h k (by omega))
      have e2 := h i (by omega)
      rw [e2, show one true = 1 from rfl]; omega
/-- Is the card an anchor of a hand? -/
def anchor (l : List Cd) (c : Cd) : Bool := (List.range l.length).all fun i => mate l c i
theorem anchor_iff {l : List Cd} {c : Cd} : anchor l c = true ↔ ∀ k, k < l.length → mate l c k = true := by
  unfold anchor
  rw [List.all_eq_true]
  simp
theorem anchor_twice {l : List Cd} {c : Cd} {n : Nat} (hn : l.length = n) (hs : sorted l) (hok : l.all Cd.ok = true) (hc : c.ok = true) : decide (2 * thr l c n = n) = anchor l c := by
  rw [Bool.eq_iff_iff, decide_eq_true_eq, ← mates_twice hn hs hok hc, (mates_le l c n).2, anchor_iff, hn]
theorem anchor_no {l : List Cd} {c : Cd} {k : Nat} (hk : k < l.length) (h : mate l c k = false) : anchor l c = false := by
  rw [Bool.eq_false_iff]; intro hh
  rw [anchor_iff.1 hh k hk] at h; cases h
/-- The numbers of the cards of which P is true. -/
def nums (P : Cd → Bool) (k : Nat) : List Int := ((List.range k).filter fun i : Nat => P (cdAt (i : Int))).map fun i : Nat => (i : Int)
theorem nums_zero (P : Cd → Bool) : nums P 0 = [] := rfl
theorem nums_yes {P : Cd → Bool} {k : Nat} (h : P (cdAt (k : Int)) = true) : nums P (k + 1) = nums P k ++ [(k : Int)] := by
  unfold nums; rw [List.range_succ, List.filter_append, List.map_append, List.filter_cons_of_pos (by simpa using h)]; rfl
theorem nums_no {P : Cd → Bool} {k : Nat} (h : P (cdAt (k : Int)) = false) : nums P (k + 1) = nums P k := by
  unfold nums; rw [List.range_succ, List.filter_append, List.map_append, List.filter_cons_of_neg (by simp [h])]; simp
theorem nums_len (P : Cd → Bool) (k : Nat) : (nums P k).length ≤ k := by
  unfold nums; rw [List.length_map]; exact Nat.le_trans (List.length_filter_le _ _) (by simp)
theorem cdAt_ok {n : Int} (h0 : 0 ≤ n) (h1 : n ≤ 80) : (cdAt n).ok = true := Cd.mk_ok (by unfold cdAt; simp only; omega)
theorem nums_ext {P Q : Cd → Bool} {k : Nat} (h : ∀ i : Nat, i < k → P (cdAt (i : Int)) = Q (cdAt (i : Int))) : nums P k = nums Q k := by
  unfold nums
  congr 1
  apply List.filter_congr
  intro i hi
  exact h i (List.mem_range.1 hi)
end Go.Proofs.Ytnibkipepmakgaa.cards
