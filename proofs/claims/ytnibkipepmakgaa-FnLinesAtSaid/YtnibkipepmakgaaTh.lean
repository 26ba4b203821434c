/- Lines of a card and two of a hand: the program and the model alike. -/
import Derived.Test.YtnibkipepmakgaaIh
import Derived.Test.YtnibkipepmakgaaLn
namespace Go.Proofs.Ytnibkipepmakgaa.cards
open Go.RowKit
set_option linter.unusedVariables false

theorem num_inj {x y : Cd} (hx : x.ok = true) (hy : y.ok = true) (h : num x = num y) : x = y := by
  obtain ⟨⟨x1, x2⟩, ⟨x3, x4⟩, ⟨x5, x6⟩, x7, x8⟩ := Cd.bd hx
  obtain ⟨⟨y1, y2⟩, ⟨y3, y4⟩, ⟨y5, y6⟩, y7, y8⟩ := Cd.bd hy
  obtain ⟨a, b, c, d⟩ := x
  obtain ⟨e, f, g, k⟩ := y
  simp only [num] at *
  rw [show a = e by omega, show b = f by omega, show c = g by omega, show d = k by omega]
theorem same_t {x y : Cd} : same x y = true ↔ (x.a = y.a ∧ x.b = y.b ∧ x.c = y.c ∧ x.d = y.d) := by unfold same; exact decide_eq_true_iff
theorem same_f {x y : Cd} : same x y = false ↔ ¬ (x.a = y.a ∧ x.b = y.b ∧ x.c = y.c ∧ x.d = y.d) := by unfold same; exact decide_eq_false_iff_not
/-- Two cards and c are a line just if the first is not c, and the second is the third card of c and it. -/
theorem line_third {x y c : Cd} (hx : x.ok = true) (hy : y.ok = true) (hc : c.ok = true) : line x y c = (!same x c && same y (third c x)) := by
  obtain ⟨⟨x1, x2⟩, ⟨x3, x4⟩, ⟨x5, x6⟩, x7, x8⟩ := Cd.bd hx
  obtain ⟨⟨y1, y2⟩, ⟨y3, y4⟩, ⟨y5, y6⟩, y7, y8⟩ := Cd.bd hy
  obtain ⟨⟨c1, c2⟩, ⟨c3, c4⟩, ⟨c5, c6⟩, c7, c8⟩ := Cd.bd hc
  have t1 : (6 - x.a - y.a) % 3 = c.a ↔ y.a = (6 - c.a - x.a) % 3 := by omega
  have t2 : (6 - x.b - y.b) % 3 = c.b ↔ y.b = (6 - c.b - x.b) % 3 := by omega
  have t3 : (6 - x.c - y.c) % 3 = c.c ↔ y.c = (6 - c.c - x.c) % 3 := by omega
  have t4 : (6 - x.d - y.d) % 3 = c.d ↔ y.d = (6 - c.d - x.d) % 3 := by omega
  rw [Bool.eq_iff_iff]
  unfold line
  rw [Bool.and_eq_true, Bool.and_eq_true, Bool.not_eq_true', Bool.not_eq_true', same_t, same_t, same_f, same_f]
  show (¬ (x.a = y.a ∧ x.b = y.b ∧ x.c = y.c ∧ x.d = y.d) ∧ (6 - x.a - y.a) % 3 = c.a ∧ (6 - x.b - y.b) % 3 = c.b ∧ (6 - x.c - y.c) % 3 = c.c ∧ (6 - x.d - y.d) % 3 = c.d) ↔ (¬ (x.a = c.a ∧ x.b = c.b ∧ x.c = c.c ∧ x.d = c.d) ∧ y.a = (6 - c.a - x.a) % 3 ∧ y.b = (6 - c.b - x.b) % 3 ∧ y.c = (6 - c.c - x.c) % 3 ∧ y.d = (6 - c.d - x.d) % 3)
  rw [t1, t2, t3, t4]
  constructor
  · rintro ⟨h1, h2, h3, h4, h5⟩
    exact ⟨fun h => h1 (by omega), h2, h3, h4, h5⟩
  · rintro ⟨h1, h2, h3, h4, h5⟩
    exact ⟨fun h => h1 (by omega), h2, h3, h4, h5⟩
theorem same_num {x y : Cd} (hx : x.ok = true) (hy : y.ok = true) : same x y = decide (num x = num y) := by
  rw [Bool.eq_iff_iff, decide_eq_true_eq, same_iff]
  exact ⟨fun h => by rw [h], num_inj hx hy⟩
/-- A card of a hand is just at its place. -/
theorem place_is {l : List Cd} {t y : Cd} {k : Nat} (hs : sorted l) (hy : l[k]? = some y) : num y = num t ↔ there l t = true ∧ less l t = k := by
  have hk := (List.getElem?_eq_some_iff.1 hy).1
  constructor
  · intro h
    have e : k = less l t := less_is (by omega) (fun j x hj hx => by have := sorted_lt hs hj hx hy; omega) (fun x hx => by rw [hy] at hx; injection hx with hx; subst hx; omega)
    exact ⟨decide_eq_true ⟨y, by rw [← e]; exact hy, h⟩, e.symm⟩
  · rintro ⟨h1, h2⟩
    obtain ⟨z, hz, hn⟩ := of_decide_eq_true h1
    rw [h2, hy] at hz
    injection hz with hz; subst hz; exact hn
theorem there_lt {l : List Cd} {t : Cd} (h : there l t = true) : less l t < l.length := by
  obtain ⟨z, hz, _⟩ := of_decide_eq_true h
  exact (List.getElem?_eq_some_iff.1 hz).1

/-- Is there a line of c, the card at i and a later one, below j? -/
def lineTo (l : List Cd) (c : Cd) (i j : Nat) : Bool := match l[i]? with
  | some x => !same x c && there l (third c x) && decide (i < less l (third c x)) && decide (less l (third c x) < j)
  | none => false
def thr (l : List Cd) (c : Cd) : Nat → Int
  | 0 => 0
  | i + 1 => thr l c i + one (lineTo l c i l.length)
theorem one_01 (b : Bool) : 0 ≤ one b ∧ one b ≤ 1 := by cases b <;> simp [one]
theorem thr_bd (l : List Cd) (c : Cd) : ∀ i : Nat, 0 ≤ thr l c i ∧ thr l c i ≤ i
  | 0 => by simp [thr]
  | i + 1 => by
    have := thr_bd l c i
    have := one_01 (lineTo l c i l.length)
    simp only [thr]; omega
theorem lineTo_zero {l : List Cd} {c : Cd} {i j : Nat} (h : j ≤ i + 1) : lineTo l c i j = false := by
  unfold lineTo
  split
  · rw [Bool.eq_false_iff]
    intro hh
    simp only [Bool.and_eq_true, decide_eq_true_eq] at hh
    omega
  · rfl
theorem lineTo_step {l : List Cd} {c x y : Cd} {i j : Nat} (hs : sorted l) (hok : l.all Cd.ok = true) (hc : c.ok = true) (hx : l[i]? = some x) (hy : l[j]? = some y) (hij : i < j) :
    one (lineTo l c i (j + 1)) = one (lineTo l c i j) + one (line x y c) := by
  have ox := ok_at hok hx
  have oy := ok_at hok hy
  rw [line_third ox oy hc, same_num oy (third_ok _ _)]
  have hp := place_is (t := third c x) hs hy
  unfold lineTo
  rw [hx]
  simp only
  cases h1 : same x c
  · by_cases h2 : num y = num (third c x)
    · obtain ⟨h3, h4⟩ := hp.1 h2
      rw [h3, h4, decide_eq_true h2]
      have e1 : decide (j < j) = false := by simp
      have e2 : decide (i < j) = true := by simp [hij]
      have e3 : decide (j < j + 1) = true := by simp
      rw [e1, e2, e3]; rfl
    · rw [decide_eq_false h2]
      cases h3 : there l (third c x)
      · rfl
      · have h4 : less l (third c x) ≠ j := fun e => h2 (hp.2 ⟨h3, e⟩)
        have e : decide (less l (third c x) < j + 1) = decide (less l (third c x) < j) := by rw [Bool.eq_iff_iff]; simp; omega
        rw [e]; simp [one]
  · rfl
theorem lineTo_all {l : List Cd} {c x : Cd} {i : Nat} (hx : l[i]? = some x) : lineTo l c i l.length = (!same x c && there l (third c x) && decide (i < less l (third c x))) := by
  unfold lineTo
  rw [hx]
  simp only
  cases h : there l (third c x)
  · simp
  · have := there_lt h
    simp [this]

end Go.Proofs.Ytnibkipepmakgaa.cards
