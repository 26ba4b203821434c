/- DeckParting: the shift's orbits, and three numbers sorted. -/
import Derived.Test.YtfbcjcfhdclklaaZ9
import Derived.Test.YtfbcjcfhdclklaaMx
import Derived.Test.YtfbcjcfhdclklaaMr
namespace Go.Proofs.Ytfbcjcfhdclklaa.parting
open Go.RowKit
open cards
set_option linter.unusedVariables false

theorem img_shift {x c : Cd} (hx : x.ok = true) : maps.img (maps.shTo zero c 4) x = plus x c := by
  obtain ⟨⟨x1, x2⟩, ⟨x3, x4⟩, ⟨x5, x6⟩, x7, x8⟩ := Cd.bd hx
  have key : ∀ (v ck : Int), 0 ≤ v → v ≤ 2 → maps.get3 ⟨(0 + 3 + ck - 0) % 3, (1 + 3 + ck - 0) % 3, (2 + 3 + ck - 0) % 3⟩ v = (v + ck) % 3 := by
    intro v ck h0 h1
    have hv : v = 0 ∨ v = 1 ∨ v = 2 := by omega
    rcases hv with rfl | rfl | rfl <;> (show (_ : Int) % 3 = _; omega)
  have e : maps.img (maps.shTo zero c 4) x = ⟨maps.get3 ⟨(0 + 3 + c.a - 0) % 3, (1 + 3 + c.a - 0) % 3, (2 + 3 + c.a - 0) % 3⟩ x.a, maps.get3 ⟨(0 + 3 + c.b - 0) % 3, (1 + 3 + c.b - 0) % 3, (2 + 3 + c.b - 0) % 3⟩ x.b, maps.get3 ⟨(0 + 3 + c.c - 0) % 3, (1 + 3 + c.c - 0) % 3, (2 + 3 + c.c - 0) % 3⟩ x.c, maps.get3 ⟨(0 + 3 + c.d - 0) % 3, (1 + 3 + c.d - 0) % 3, (2 + 3 + c.d - 0) % 3⟩ x.d⟩ := rfl
  rw [e, key _ _ x1 x2, key _ _ x3 x4, key _ _ x5 x6, key _ _ x7 x8]
  rfl
theorem shift_ok (c : Cd) : (maps.shTo zero c 4).ok = true := by
  have key : ∀ ck : Int, (maps.A3.mk ((0 + 3 + ck - 0) % 3) ((1 + 3 + ck - 0) % 3) ((2 + 3 + ck - 0) % 3)).pm = true := by
    intro ck
    unfold maps.A3.pm
    refine decide_eq_true ?_
    simp only
    omega
  have e : (maps.shTo zero c 4).ok = ((maps.A3.mk ((0 + 3 + c.a - 0) % 3) ((1 + 3 + c.a - 0) % 3) ((2 + 3 + c.a - 0) % 3)).pm && (maps.A3.mk ((0 + 3 + c.b - 0) % 3) ((1 + 3 + c.b - 0) % 3) ((2 + 3 + c.b - 0) % 3)).pm && (maps.A3.mk ((0 + 3 + c.c - 0) % 3) ((1 + 3 + c.c - 0) % 3) ((2 + 3 + c.c - 0) % 3)).pm && (maps.A3.mk ((0 + 3 + c.d - 0) % 3) ((1 + 3 + c.d - 0) % 3) ((2 + 3 + c.d - 0) % 3)).pm && (maps.id4).pm) := rfl
  rw [e, key, key, key, key]
  rfl
theorem plus3 {x c : Cd} (hx : x.ok = true) : plus (plus (plus x c) c) c = x := by
  obtain ⟨⟨x1, x2⟩, ⟨x3, x4⟩, ⟨x5, x6⟩, x7, x8⟩ := Cd.bd hx
  obtain ⟨a, b, d, e⟩ := x
  simp only [plus, Cd.mk.injEq]
  simp only at x1 x2 x3 x4 x5 x6 x7 x8
  refine ⟨?_, ?_, ?_, ?_⟩ <;> omega
theorem plus_ne {x c : Cd} (hx : x.ok = true) (hc : c.ok = true) (hz : same c zero = false) : plus x c ≠ x ∧ plus (plus x c) c ≠ x ∧ plus (plus x c) c ≠ plus x c := by
  obtain ⟨⟨x1, x2⟩, ⟨x3, x4⟩, ⟨x5, x6⟩, x7, x8⟩ := Cd.bd hx
  obtain ⟨⟨y1, y2⟩, ⟨y3, y4⟩, ⟨y5, y6⟩, y7, y8⟩ := Cd.bd hc
  have hn : ¬ (c.a = 0 ∧ c.b = 0 ∧ c.c = 0 ∧ c.d = 0) := by
    have := same_f.1 hz
    exact this
  obtain ⟨a, b, d, e⟩ := x
  obtain ⟨p, q, r, s⟩ := c
  simp only [plus, ne_eq, Cd.mk.injEq]
  simp only at x1 x2 x3 x4 x5 x6 x7 x8 y1 y2 y3 y4 y5 y6 y7 y8 hn
  refine ⟨?_, ?_, ?_⟩
  · rintro ⟨h1, h2, h3, h4⟩; exact hn ⟨by omega, by omega, by omega, by omega⟩
  · rintro ⟨h1, h2, h3, h4⟩; exact hn ⟨by omega, by omega, by omega, by omega⟩
  · rintro ⟨h1, h2, h3, h4⟩; exact hn ⟨by omega, by omega, by omega, by omega⟩
/-- The orbit of a card under a shift. -/
theorem orb_shift {x c : Cd} (hx : x.ok = true) (hc : c.ok = true) (hz : same c zero = false) : maps.orbR (maps.shTo zero c 4) x = ([num x, num (plus x c), num (plus (plus x c) c)], true) := by
  have hm := shift_ok c
  have p0 : maps.img (maps.pow (maps.shTo zero c 4) 0) x = x := maps.orb_zero hx
  have p1 : maps.img (maps.pow (maps.shTo zero c 4) 1) x = plus x c := by rw [maps.orb_next, p0, img_shift hx]
  have p2 : maps.img (maps.pow (maps.shTo zero c 4) 2) x = plus (plus x c) c := by rw [maps.orb_next, p1, img_shift (plus_ok x c)]
  have p3 : maps.img (maps.pow (maps.shTo zero c 4) 3) x = x := by rw [maps.orb_next, p2, img_shift (plus_ok _ c), plus3 hx]
  obtain ⟨h1, h2, h3, h4⟩ := maps.orbN_spec hm hx
  obtain ⟨n1, n2, _⟩ := plus_ne hx hc hz
  have hN : maps.orbN (maps.shTo zero c 4) x = 3 := by
    rcases Nat.lt_trichotomy (maps.orbN (maps.shTo zero c 4) x) 3 with h | h | h
    · have : maps.orbN (maps.shTo zero c 4) x = 1 ∨ maps.orbN (maps.shTo zero c 4) x = 2 := by omega
      rcases this with e | e
      · rw [e, p1] at h3; exact (n1 h3).elim
      · rw [e, p2] at h3; exact (n2 h3).elim
    · exact h
    · exact (h4 3 (by omega) h p3).elim
  unfold maps.orbR
  rw [if_pos ⟨hm, hx⟩, hN, maps.orbI_succ, maps.orbI_succ, maps.orbI_succ, p0, p1, p2]
  rfl
/-- Three different numbers in order. -/
theorem srt3 {a k m : Int} {r : List Int} (hp : r.Perm [a, k, m]) (hs : r.Pairwise (fun x y => x ≤ y)) (h1 : a ≠ k) (h2 : a ≠ m) (h3 : k ≠ m) : ∃ p q s, r = [p, q, s] ∧ (p = a ↔ a < k ∧ a < m) ∧ (a < k ∧ a < m → q = lo2 k m ∧ s = hi2 k m) := by
  have hl := hp.length_eq
  match r, hl with
  | [p, q, s], _ =>
    have hs1 : p ≤ q ∧ p ≤ s ∧ q ≤ s := by
      simp at hs
      exact ⟨hs.1.1, hs.1.2, hs.2⟩
    have hn : [p, q, s].Nodup := hp.nodup_iff.2 (by simp; exact ⟨⟨h1, h2⟩, h3⟩)
    have hn1 : (p ≠ q ∧ p ≠ s) ∧ q ≠ s := by simpa using hn
    have ma : p = a ∨ p = k ∨ p = m := by simpa using hp.mem_iff.1 (show p ∈ [p, q, s] by simp)
    have mb : q = a ∨ q = k ∨ q = m := by simpa using hp.mem_iff.1 (show q ∈ [p, q, s] by simp)
    have mc : s = a ∨ s = k ∨ s = m := by simpa using hp.mem_iff.1 (show s ∈ [p, q, s] by simp)
    obtain ⟨⟨n1, n2⟩, n3⟩ := hn1
    obtain ⟨s1, s2, s3⟩ := hs1
    clear hn hp hs hl
    have key : (p = a ↔ a < k ∧ a < m) ∧ (a < k ∧ a < m → q = lo2 k m ∧ s = hi2 k m) := by
      unfold lo2 hi2
      rcases ma with e1 | e1 | e1 <;> rcases mb with e2 | e2 | e2 <;> rcases mc with e3 | e3 | e3 <;> first | (exfalso; omega) | (constructor <;> (try split) <;> omega)
    exact ⟨p, q, s, rfl, key.1, key.2⟩
end Go.Proofs.Ytfbcjcfhdclklaa.parting
