/- Triangles, and the nine cards of a square: what the functions return. -/
import Derived.Test.YtdhcdogmbclhaaaOg
import Derived.Test.YtdhcdogmbclhaaaVw
import Derived.Test.YtdhcdogmbclhaaaLn
namespace Go.Proofs.Ytdhcdogmbclhaaa.planes
open Go.RowKit
open cards reg
set_option linter.unusedVariables false

/-- Three different cards that are no line. -/
def triB (a b c : Cd) : Bool := (a.ok && b.ok && c.ok) && (!same a b && (!same a c && (!same b c && !same c (third a b))))
theorem triB_ok {a b c : Cd} (h : triB a b c = true) : a.ok = true ∧ b.ok = true ∧ c.ok = true := by
  unfold triB at h
  simp only [Bool.and_eq_true] at h
  exact ⟨h.1.1.1, h.1.1.2, h.1.2⟩
theorem triB_ne {a b c : Cd} (h : triB a b c = true) : a ≠ b ∧ a ≠ c ∧ b ≠ c ∧ c ≠ third a b := by
  unfold triB at h
  simp only [Bool.and_eq_true, Bool.not_eq_true'] at h
  obtain ⟨_, h1, h2, h3, h4⟩ := h
  refine ⟨?_, ?_, ?_, ?_⟩ <;> intro e
  · rw [same_iff.2 e] at h1; cases h1
  · rw [same_iff.2 e] at h2; cases h2
  · rw [same_iff.2 e] at h3; cases h3
  · rw [same_iff.2 e] at h4; cases h4
def lin (i j x y z : Int) : Int := (x + i * (y - x + 3) + j * (z - x + 3)) % 3
/-- The card of the square in column i, row j. -/
def sqc (a b c : Cd) (i j : Int) : Cd := ⟨lin i j a.a b.a c.a, lin i j a.b b.b c.b, lin i j a.c b.c c.c, lin i j a.d b.d c.d⟩
def sq (a b c : Cd) : List Cd := [sqc a b c 0 0, sqc a b c 1 0, sqc a b c 2 0, sqc a b c 0 1, sqc a b c 1 1, sqc a b c 2 1, sqc a b c 0 2, sqc a b c 1 2, sqc a b c 2 2]
theorem sqc_ok (a b c : Cd) (i j : Int) : (sqc a b c i j).ok = true := Cd.mk_ok (by unfold sqc lin; simp only; omega)
theorem sq_ok (a b c : Cd) : (sq a b c).all Cd.ok = true := by simp [sq, sqc_ok]
/-- The nine cards as the program has them. -/
theorem sq_are {a b c : Cd} (ha : a.ok = true) (hb : b.ok = true) (hc : c.ok = true) :
    [a, b, third a b, c, third (third a b) (third a c), third c (third (third a b) (third a c)), third a c, third b (third (third a b) (third a c)), third a (third (third a b) (third a c))] = sq a b c := by
  obtain ⟨a1, a2, a3, a4⟩ := a
  obtain ⟨b1, b2, b3, b4⟩ := b
  obtain ⟨c1, c2, c3, c4⟩ := c
  have h1 := Cd.bd ha
  have h2 := Cd.bd hb
  have h3 := Cd.bd hc
  simp only at h1 h2 h3
  simp only [sq, sqc, third, lin, List.cons.injEq, Cd.mk.injEq, and_true]
  refine ⟨⟨?_, ?_, ?_, ?_⟩, ⟨?_, ?_, ?_, ?_⟩, ⟨?_, ?_, ?_, ?_⟩, ⟨?_, ?_, ?_, ?_⟩, ⟨?_, ?_, ?_, ?_⟩, ⟨?_, ?_, ?_, ?_⟩, ⟨?_, ?_, ?_, ?_⟩, ⟨?_, ?_, ?_, ?_⟩, ⟨?_, ?_, ?_, ?_⟩⟩ <;> omega
def I3 (i : Int) : Prop := i = 0 ∨ i = 1 ∨ i = 2
theorem lin_third (i j p q x y z : Int) (hi : I3 i) (hj : I3 j) (hp : I3 p) (hq : I3 q) : (6 - lin i j x y z - lin p q x y z) % 3 = lin ((6 - i - p) % 3) ((6 - j - q) % 3) x y z := by
  rcases hi with rfl | rfl | rfl <;> rcases hp with rfl | rfl | rfl <;> rcases hj with rfl | rfl | rfl <;> rcases hq with rfl | rfl | rfl <;> (unfold lin; simp only [Int.reduceSub, Int.reduceMod]; omega)
theorem sqc_third (a b c : Cd) (i j p q : Int) (hi : I3 i) (hj : I3 j) (hp : I3 p) (hq : I3 q) : third (sqc a b c i j) (sqc a b c p q) = sqc a b c ((6 - i - p) % 3) ((6 - j - q) % 3) := by
  unfold third sqc
  simp only [lin_third _ _ _ _ _ _ _ hi hj hp hq]
theorem sq_mem {a b c x : Cd} : x ∈ sq a b c ↔ ∃ i j, I3 i ∧ I3 j ∧ x = sqc a b c i j := by
  constructor
  · intro h
    simp only [sq, List.mem_cons, List.not_mem_nil, or_false] at h
    rcases h with h | h | h | h | h | h | h | h | h
    · exact ⟨0, 0, .inl rfl, .inl rfl, h⟩
    · exact ⟨1, 0, .inr (.inl rfl), .inl rfl, h⟩
    · exact ⟨2, 0, .inr (.inr rfl), .inl rfl, h⟩
    · exact ⟨0, 1, .inl rfl, .inr (.inl rfl), h⟩
    · exact ⟨1, 1, .inr (.inl rfl), .inr (.inl rfl), h⟩
    · exact ⟨2, 1, .inr (.inr rfl), .inr (.inl rfl), h⟩
    · exact ⟨0, 2, .inl rfl, .inr (.inr rfl), h⟩
    · exact ⟨1, 2, .inr (.inl rfl), .inr (.inr rfl), h⟩
    · exact ⟨2, 2, .inr (.inr rfl), .inr (.inr rfl), h⟩
  · rintro ⟨i, j, hi, hj, rfl⟩
    rcases hi with rfl | rfl | rfl <;> rcases hj with rfl | rfl | rfl <;> simp [sq]
theorem I3.third {i p : Int} (hi : I3 i) (hp : I3 p) : I3 ((6 - i - p) % 3) := by
  unfold I3 at *; omega
theorem sq_closed {a b c : Cd} : ∀ x, x ∈ sq a b c → ∀ y, y ∈ sq a b c → third x y ∈ sq a b c := by
  intro x hx y hy
  obtain ⟨i, j, hi, hj, rfl⟩ := sq_mem.1 hx
  obtain ⟨p, q, hp, hq, rfl⟩ := sq_mem.1 hy
  rw [sqc_third a b c i j p q hi hj hp hq]
  exact sq_mem.2 ⟨_, _, hi.third hp, hj.third hq, rfl⟩
/-- Two equal numbers of the square in one trait. -/
theorem lin_eq (i j p q x y z : Int) (hi : I3 i) (hj : I3 j) (hp : I3 p) (hq : I3 q) (hx : 0 ≤ x ∧ x ≤ 2) (hy : 0 ≤ y ∧ y ≤ 2) (hz : 0 ≤ z ∧ z ≤ 2) (h : lin i j x y z = lin p q x y z) :
    (j = q → i ≠ p → x = y) ∧ (j ≠ q → i = p → x = z) ∧ (j ≠ q → i ≠ p → (i + j - p - q) % 3 ≠ 0 → z = (6 - x - y) % 3 ∨ y = z) ∧ (j ≠ q → i ≠ p → (i + j - p - q) % 3 = 0 → y = z) ∧ (j ≠ q → i ≠ p → (i + j - p - q) % 3 ≠ 0 → z = (6 - x - y) % 3) := by
  rcases hi with rfl | rfl | rfl <;> rcases hp with rfl | rfl | rfl <;> rcases hj with rfl | rfl | rfl <;> rcases hq with rfl | rfl | rfl <;> (unfold lin at h; omega)
theorem sqc_inj {a b c : Cd} (h : triB a b c = true) {i j p q : Int} (hi : I3 i) (hj : I3 j) (hp : I3 p) (hq : I3 q) (he : sqc a b c i j = sqc a b c p q) : i = p ∧ j = q := by
  obtain ⟨oa, ob, oc⟩ := triB_ok h
  obtain ⟨n1, n2, n3, n4⟩ := triB_ne h
  obtain ⟨a1, a2, a3, a4⟩ := a
  obtain ⟨b1, b2, b3, b4⟩ := b
  obtain ⟨c1, c2, c3, c4⟩ := c
  have k1 := Cd.bd oa
  have k2 := Cd.bd ob
  have k3 := Cd.bd oc
  simp only at k1 k2 k3
  simp only [sqc, Cd.mk.injEq] at he
  have e1 := lin_eq i j p q a1 b1 c1 hi hj hp hq k1.1 k2.1 k3.1 he.1
  have e2 := lin_eq i j p q a2 b2 c2 hi hj hp hq k1.2.1 k2.2.1 k3.2.1 he.2.1
  have e3 := lin_eq i j p q a3 b3 c3 hi hj hp hq k1.2.2.1 k2.2.2.1 k3.2.2.1 he.2.2.1
  have e4 := lin_eq i j p q a4 b4 c4 hi hj hp hq k1.2.2.2 k2.2.2.2 k3.2.2.2 he.2.2.2
  by_cases g1 : j = q
  · by_cases g2 : i = p
    · exact ⟨g2, g1⟩
    · exact absurd (by rw [e1.1 g1 g2, e2.1 g1 g2, e3.1 g1 g2, e4.1 g1 g2]) n1
  · by_cases g2 : i = p
    · exact absurd (by rw [e1.2.1 g1 g2, e2.2.1 g1 g2, e3.2.1 g1 g2, e4.2.1 g1 g2]) n2
    · by_cases g3 : (i + j - p - q) % 3 = 0
      · exact absurd (by rw [e1.2.2.2.1 g1 g2 g3, e2.2.2.2.1 g1 g2 g3, e3.2.2.2.1 g1 g2 g3, e4.2.2.2.1 g1 g2 g3]) n3
      · exact absurd (by simp only [third, Cd.mk.injEq]; exact ⟨e1.2.2.2.2 g1 g2 g3, e2.2.2.2.2 g1 g2 g3, e3.2.2.2.2 g1 g2 g3, e4.2.2.2.2 g1 g2 g3⟩) n4
theorem sq_nodup {a b c : Cd} (h : triB a b c = true) : (sq a b c).Nodup := by
  have e : sq a b c = [((0 : Int), (0 : Int)), (1, 0), (2, 0), (0, 1), (1, 1), (2, 1), (0, 2), (1, 2), (2, 2)].map (fun ij : Int × Int => sqc a b c ij.1 ij.2) := rfl
  rw [e]
  refine List.Pairwise.map _ (R := fun (x y : Int × Int) => I3 x.1 ∧ I3 x.2 ∧ I3 y.1 ∧ I3 y.2 ∧ x ≠ y) ?_ ?_
  · rintro x y ⟨x1, x2, y1, y2, hne⟩ he
    have := sqc_inj h x1 x2 y1 y2 he
    exact hne (Prod.ext this.1 this.2)
  · unfold I3; decide
theorem sq_len (a b c : Cd) : (sq a b c).length = 9 := rfl
/-- In order, the nine cards are the span of the three. -/
theorem sq_span {a b c : Cd} (ha : a.ok = true) (hb : b.ok = true) (hc : c.ok = true) : allPut (sq a b c) = span [a, b, c] := by
  have hall := allPut_is (sq_ok a b c)
  have hl : [a, b, c].all Cd.ok = true := by simp [ha, hb, hc]
  have hs := sq_are ha hb hc
  have m0 : a ∈ sq a b c := by rw [← hs]; simp
  have m1 : b ∈ sq a b c := by rw [← hs]; simp
  have m2 : c ∈ sq a b c := by rw [← hs]; simp
  refine span_is hl hall.1 ?_ ?_ ?_
  · intro x hx
    refine (hall.2.2 x).2 ?_
    simp only [List.mem_cons, List.not_mem_nil, or_false] at hx
    rcases hx with rfl | rfl | rfl
    · exact m0
    · exact m1
    · exact m2
  · intro x hx
    have hx := (hall.2.2 x).1 hx
    have ga : Gen [a, b, c] a := Gen.base (by simp)
    have gb : Gen [a, b, c] b := Gen.base (by simp)
    have gc : Gen [a, b, c] c := Gen.base (by simp)
    have gm := (ga.third gb).third (ga.third gc)
    rw [← hs] at hx
    simp only [List.mem_cons, List.not_mem_nil, or_false] at hx
    rcases hx with h | h | h | h | h | h | h | h | h <;> rw [h]
    · exact ga
    · exact gb
    · exact ga.third gb
    · exact gc
    · exact gm
    · exact gc.third gm
    · exact ga.third gc
    · exact gb.third gm
    · exact ga.third gm
  · intro x hx y hy
    exact (hall.2.2 _).2 (sq_closed x ((hall.2.2 x).1 hx) y ((hall.2.2 y).1 hy))
end Go.Proofs.Ytdhcdogmbclhaaa.planes
