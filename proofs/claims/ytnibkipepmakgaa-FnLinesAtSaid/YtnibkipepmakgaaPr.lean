/- The pairs of cards of a hand with which a card makes a line: as a list. -/
import Derived.Test.YtnibkipepmakgaaTh
import Derived.Test.YtnibkipepmakgaaR2
namespace Go.Proofs.Ytnibkipepmakgaa.cards
open Go.RowKit
set_option linter.unusedVariables false

theorem third_comm (x y : Cd) : third x y = third y x := by
  unfold third
  rw [show 6 - x.a - y.a = 6 - y.a - x.a by omega, show 6 - x.b - y.b = 6 - y.b - x.b by omega, show 6 - x.c - y.c = 6 - y.c - x.c by omega, show 6 - x.d - y.d = 6 - y.d - x.d by omega]
/-- The pair of the card at i, if its partner is below j. -/
def pr1 (l : List Cd) (c : Cd) (i j : Nat) : List A2 := match l[i]? with
  | some x => if lineTo l c i j = true then [⟨(i : Int), (less l (third c x) : Int)⟩] else []
  | none => []
def prs (l : List Cd) (c : Cd) : Nat → List A2
  | 0 => []
  | i + 1 => prs l c i ++ pr1 l c i l.length
theorem pr1_len (l : List Cd) (c : Cd) (i j : Nat) : ((pr1 l c i j).length : Int) = one (lineTo l c i j) := by
  unfold pr1
  cases h : l[i]? with
  | none => unfold lineTo; rw [h]; rfl
  | some x => cases h2 : lineTo l c i j <;> simp [one]
theorem prs_len (l : List Cd) (c : Cd) : ∀ i : Nat, ((prs l c i).length : Int) = thr l c i
  | 0 => rfl
  | i + 1 => by
    have h1 := prs_len l c i
    have h2 := pr1_len l c i l.length
    simp only [prs, thr, List.length_append]
    omega
theorem prs_le (l : List Cd) (c : Cd) (i : Nat) : (prs l c i).length ≤ i := by
  have h1 := prs_len l c i
  have h2 := thr_bd l c i
  omega
theorem pr1_le (l : List Cd) (c : Cd) (i j : Nat) : (pr1 l c i j).length ≤ 1 := by
  have h1 := pr1_len l c i j
  have h2 := one_01 (lineTo l c i j)
  omega
theorem pr1_low {l : List Cd} {c : Cd} {i j : Nat} (h : j ≤ i + 1) : pr1 l c i j = [] := by
  have h1 := pr1_len l c i j
  rw [lineTo_zero h] at h1
  exact List.length_eq_zero_iff.1 (by simp only [one] at h1; simpa using h1)
theorem pr1_no {l : List Cd} {c : Cd} {i j : Nat} (h : lineTo l c i j = false) : pr1 l c i j = [] := by
  have h1 := pr1_len l c i j
  rw [h] at h1
  exact List.length_eq_zero_iff.1 (by simp only [one] at h1; simpa using h1)
theorem pr1_yes {l : List Cd} {c x : Cd} {i j : Nat} (hx : l[i]? = some x) (h : lineTo l c i j = true) : pr1 l c i j = [⟨(i : Int), (less l (third c x) : Int)⟩] := by
  unfold pr1; rw [hx]; simp only; rw [if_pos h]
theorem one_inj {a b : Bool} (h : one a = one b) : a = b := by cases a <;> cases b <;> first | rfl | (exact absurd h (by decide))
/-- The next card's turn: the pair is (i, j) just if the three are a line. -/
theorem pr1_step {l : List Cd} {c x y : Cd} {i j : Nat} (hs : sorted l) (hok : l.all Cd.ok = true) (hc : c.ok = true) (hx : l[i]? = some x) (hy : l[j]? = some y) (hij : i < j) :
    pr1 l c i (j + 1) = pr1 l c i j ++ (if line x y c = true then [⟨(i : Int), (j : Int)⟩] else []) := by
  have h1 := lineTo_step hs hok hc hx hy hij
  have a1 := one_01 (lineTo l c i j)
  cases hl : line x y c
  · rw [hl] at h1
    have e : lineTo l c i (j + 1) = lineTo l c i j := one_inj (by rw [h1]; simp [one])
    unfold pr1; rw [hx]; simp only; rw [e]; simp
  · have hth := line_third (ok_at hok hx) (ok_at hok hy) hc
    rw [hl] at hth
    have hq := (Bool.and_eq_true _ _).mp hth.symm
    have hy2 := same_iff.1 hq.2
    have hp := (place_is (t := third c x) hs hy).1 (by rw [hy2])
    rw [hl] at h1
    have a2 := one_01 (lineTo l c i (j + 1))
    have e3 : one true = 1 := rfl
    have e1 : lineTo l c i (j + 1) = true := one_inj (by omega)
    have e2 : lineTo l c i j = false := one_inj (by rw [show one false = 0 from rfl]; omega)
    rw [pr1_yes hx e1, pr1_no e2, hp.2]; simp
/-- There is a pair just if there are two cards that are a line with c. -/
theorem thr_some (l : List Cd) (c : Cd) : ∀ i : Nat, 0 < thr l c i ↔ ∃ k, k < i ∧ lineTo l c k l.length = true
  | 0 => by simp [thr]
  | i + 1 => by
    have h1 := thr_some l c i
    have h2 := thr_bd l c i
    simp only [thr]
    cases h : lineTo l c i l.length
    · simp only [one, Bool.false_eq_true, if_false, Int.add_zero, h1]
      constructor
      · rintro ⟨k, hk, hh⟩; exact ⟨k, by omega, hh⟩
      · rintro ⟨k, hk, hh⟩
        refine ⟨k, ?_, hh⟩
        rcases Nat.lt_or_eq_of_le (Nat.le_of_lt_succ hk) with h3 | h3
        · exact h3
        · subst h3; rw [h] at hh; cases hh
    · simp only [one, if_true]
      exact ⟨fun _ => ⟨i, by omega, h⟩, fun _ => by omega⟩
theorem thr_pos {l : List Cd} {c : Cd} {n : Nat} (hn : l.length = n) (hs : sorted l) (hok : l.all Cd.ok = true) (hc : c.ok = true) :
    0 < thr l c n ↔ ∃ (i j : Nat) (x y : Cd), i < j ∧ l[i]? = some x ∧ l[j]? = some y ∧ line x y c = true := by
  rw [thr_some]
  constructor
  · rintro ⟨k, hk, hh⟩
    have hx : l[k]? = some l[k] := List.getElem?_eq_getElem (by omega)
    rw [lineTo_all hx] at hh
    simp only [Bool.and_eq_true, decide_eq_true_eq] at hh
    obtain ⟨⟨h1, h2⟩, h3⟩ := hh
    obtain ⟨z, hz, hn2⟩ := of_decide_eq_true h2
    have oz := ok_at hok hz
    have e := num_inj oz (third_ok _ _) hn2
    refine ⟨k, _, _, z, h3, hx, hz, ?_⟩
    rw [line_third (ok_at hok hx) oz hc, h1, e]
    simp [same]
  · rintro ⟨i, j, x, y, hij, hx, hy, hl⟩
    have hi := (List.getElem?_eq_some_iff.1 hx).1
    refine ⟨i, by omega, ?_⟩
    rw [line_third (ok_at hok hx) (ok_at hok hy) hc] at hl
    have hq := (Bool.and_eq_true _ _).mp hl
    have hy2 := same_iff.1 hq.2
    have hp := (place_is (t := third c x) hs hy).1 (by rw [hy2])
    rw [lineTo_all hx, hp.1, hp.2]
    simp [hq.1, hij]
end Go.Proofs.Ytnibkipepmakgaa.cards
