/- Three places that are a line or not; a line is taken: the program and the model alike. -/
import Derived.Test.YtjanphcfflahkaaUb
import Derived.Test.YtjanphcfflahkaaUa
import Derived.BigQuiet
namespace Go.Proofs.Ytjanphcfflahkaa.deal
open Go.RowKit
open cards
set_option linter.unusedVariables false

theorem isLn_rng {l : List Cd} {t : A3} (h : isLn l t) : 0 ≤ t.a ∧ t.a < t.b ∧ t.b < t.c ∧ t.c < l.length := by
  obtain ⟨i, j, m, x, y, z, h1, h2, hx, hy, hz, hl, rfl⟩ := h
  have := (List.getElem?_eq_some_iff.1 hz).1
  exact ⟨by simp only; omega, by simp only; omega, by simp only; omega, by simp only; omega⟩
theorem has3_ln {l : List Cd} (hd : l.Nodup) {t : A3} : has3 (lines l) t = true ↔ isLn l t := by rw [has3_iff, mem_lines hd]
theorem has3_out {l : List Cd} (hd : l.Nodup) {t : A3} (h : ¬ (0 ≤ t.a ∧ t.a < t.b ∧ t.b < t.c ∧ t.c < l.length)) : has3 (lines l) t = false := by
  cases hq : has3 (lines l) t
  · rfl
  · exact absurd (isLn_rng ((has3_ln hd).1 hq)) h
theorem has3_val {l : List Cd} (hd : l.Nodup) {i j m : Nat} {x y z : Cd} (h1 : i < j) (h2 : j < m) (hx : l[i]? = some x) (hy : l[j]? = some y) (hz : l[m]? = some z) : has3 (lines l) ⟨i, j, m⟩ = cards.line x y z := by
  rw [Bool.eq_iff_iff, has3_ln hd]
  constructor
  · rintro ⟨i', j', m', x', y', z', g1, g2, hx', hy', hz', hl, e⟩
    injection e with e1 e2 e3
    obtain rfl : i = i' := by omega
    obtain rfl : j = j' := by omega
    obtain rfl : m = m' := by omega
    rw [hx] at hx'; rw [hy] at hy'; rw [hz] at hz'
    injection hx' with hx'; injection hy' with hy'; injection hz' with hz'
    subst hx'; subst hy'; subst hz'
    exact hl
  · intro hl
    exact ⟨i, j, m, x, y, z, h1, h2, hx, hy, hz, hl, rfl⟩
theorem lines_wf {l : List Cd} (hd : l.Nodup) (hl : l.length ≤ 81) : ∀ x ∈ lines l, wf3 x := fun x hx => by
  have h := isLn_rng ((mem_lines hd).1 hx)
  exact ⟨wf_small (by omega) (by omega), wf_small (by omega) (by omega), wf_small (by omega) (by omega)⟩

end Go.Proofs.Ytjanphcfflahkaa.deal
