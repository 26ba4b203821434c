/- Maps: the pure mathematics: images, one Map behind another one, powers, orders of at most 18. -/
import Derived.Test.YtfbcjcfhdclklaaHd
namespace Go.Proofs.Ytfbcjcfhdclklaa.cards
theorem Cd.ext' {x y : Cd} (h1 : x.a = y.a) (h2 : x.b = y.b) (h3 : x.c = y.c) (h4 : x.d = y.d) : x = y := by cases x; cases y; cases h1; cases h2; cases h3; cases h4; rfl
def Cd.pm (x : Cd) : Bool := decide ((0 ≤ x.a ∧ x.a ≤ 3) ∧ (0 ≤ x.b ∧ x.b ≤ 3) ∧ (0 ≤ x.c ∧ x.c ≤ 3) ∧ (0 ≤ x.d ∧ x.d ≤ 3) ∧ x.b ≠ x.a ∧ x.c ≠ x.a ∧ x.c ≠ x.b ∧ x.d ≠ x.a ∧ x.d ≠ x.b ∧ x.d ≠ x.c)
theorem Cd.pm_iff {x : Cd} : x.pm = true ↔ ((0 ≤ x.a ∧ x.a ≤ 3) ∧ (0 ≤ x.b ∧ x.b ≤ 3) ∧ (0 ≤ x.c ∧ x.c ≤ 3) ∧ (0 ≤ x.d ∧ x.d ≤ 3) ∧ x.b ≠ x.a ∧ x.c ≠ x.a ∧ x.c ≠ x.b ∧ x.d ≠ x.a ∧ x.d ≠ x.b ∧ x.d ≠ x.c) := by unfold Cd.pm; exact decide_eq_true_iff
theorem Cd.four {x : Cd} (h : x.pm = true) : x ∈ [(⟨0,1,2,3⟩ : Cd), ⟨0,1,3,2⟩, ⟨0,2,1,3⟩, ⟨0,2,3,1⟩, ⟨0,3,1,2⟩, ⟨0,3,2,1⟩, ⟨1,0,2,3⟩, ⟨1,0,3,2⟩, ⟨1,2,0,3⟩, ⟨1,2,3,0⟩, ⟨1,3,0,2⟩, ⟨1,3,2,0⟩, ⟨2,0,1,3⟩, ⟨2,0,3,1⟩, ⟨2,1,0,3⟩, ⟨2,1,3,0⟩, ⟨2,3,0,1⟩, ⟨2,3,1,0⟩, ⟨3,0,1,2⟩, ⟨3,0,2,1⟩, ⟨3,1,0,2⟩, ⟨3,1,2,0⟩, ⟨3,2,0,1⟩, ⟨3,2,1,0⟩] := by
  obtain ⟨a, b, c, d⟩ := x
  obtain ⟨ha, hb, hc, hd, h1, h2, h3, h4, h5, h6⟩ := Cd.pm_iff.1 h
  simp only at ha hb hc hd h1 h2 h3 h4 h5 h6
  have a4 : a = 0 ∨ a = 1 ∨ a = 2 ∨ a = 3 := by omega
  have b4 : b = 0 ∨ b = 1 ∨ b = 2 ∨ b = 3 := by omega
  have c4 : c = 0 ∨ c = 1 ∨ c = 2 ∨ c = 3 := by omega
  have d4 : d = 0 ∨ d = 1 ∨ d = 2 ∨ d = 3 := by omega
  clear h ha hb hc hd
  rcases a4 with rfl | rfl | rfl | rfl <;> rcases b4 with rfl | rfl | rfl | rfl <;> first | (exfalso; omega) | skip
  all_goals rcases c4 with rfl | rfl | rfl | rfl <;> first | (exfalso; omega) | skip
  all_goals rcases d4 with rfl | rfl | rfl | rfl <;> first | (exfalso; omega) | simp
theorem Cd.ok_iff {x : Cd} : x.ok = true ↔ (0 ≤ x.a ∧ x.a ≤ 2) ∧ (0 ≤ x.b ∧ x.b ≤ 2) ∧ (0 ≤ x.c ∧ x.c ≤ 2) ∧ (0 ≤ x.d ∧ x.d ≤ 2) := by unfold Cd.ok; exact decide_eq_true_iff
end Go.Proofs.Ytfbcjcfhdclklaa.cards
namespace Go.Proofs.Ytfbcjcfhdclklaa.maps
open Go.RowKit
open cards
set_option linter.unusedVariables false
set_option maxRecDepth 100000

structure A3 where
  a : Int
  b : Int
  c : Int
structure Mp where
  t : Cd
  v0 : A3
  v1 : A3
  v2 : A3
  v3 : A3
def get4 (x : Cd) (i : Int) : Int := if i = 0 then x.a else if i = 1 then x.b else if i = 2 then x.c else x.d
def get3 (x : A3) (i : Int) : Int := if i = 0 then x.a else if i = 1 then x.b else x.c
def getV (m : Mp) (i : Int) : A3 := if i = 0 then m.v0 else if i = 1 then m.v1 else if i = 2 then m.v2 else m.v3
def A3.pm (x : A3) : Bool := decide ((0 ≤ x.a ∧ x.a ≤ 2) ∧ (0 ≤ x.b ∧ x.b ≤ 2) ∧ (0 ≤ x.c ∧ x.c ≤ 2) ∧ x.b ≠ x.a ∧ x.c ≠ x.a ∧ x.c ≠ x.b)
def Mp.ok (m : Mp) : Bool := m.v0.pm && m.v1.pm && m.v2.pm && m.v3.pm && m.t.pm
def img (m : Mp) (c : Cd) : Cd := ⟨get3 m.v0 (get4 c m.t.a), get3 m.v1 (get4 c m.t.b), get3 m.v2 (get4 c m.t.c), get3 m.v3 (get4 c m.t.d)⟩
def c3 (x y : A3) : A3 := ⟨get3 x y.a, get3 x y.b, get3 x y.c⟩
def c4 (x y : Cd) : Cd := ⟨get4 x y.a, get4 x y.b, get4 x y.c, get4 x y.d⟩
/-- As a and then as b. -/
def bh (a b : Mp) : Mp := ⟨c4 a.t b.t, c3 b.v0 (getV a b.t.a), c3 b.v1 (getV a b.t.b), c3 b.v2 (getV a b.t.c), c3 b.v3 (getV a b.t.d)⟩
abbrev id3 : A3 := ⟨0, 1, 2⟩
abbrev id4 : Cd := ⟨0, 1, 2, 3⟩
abbrev idM : Mp := ⟨id4, id3, id3, id3, id3⟩
theorem get3_c3 (x y : A3) (i : Int) : get3 (c3 x y) i = get3 x (get3 y i) := by
  unfold c3
  by_cases h0 : i = 0
  · subst h0; rfl
  · by_cases h1 : i = 1
    · subst h1; rfl
    · simp only [get3, if_neg h0, if_neg h1]
theorem get4_c4 (x y : Cd) (i : Int) : get4 (c4 x y) i = get4 x (get4 y i) := by
  unfold c4
  by_cases h0 : i = 0
  · subst h0; rfl
  · by_cases h1 : i = 1
    · subst h1; rfl
    · by_cases h2 : i = 2
      · subst h2; rfl
      · simp only [get4, if_neg h0, if_neg h1, if_neg h2]
theorem c3_assoc (x y z : A3) : c3 (c3 x y) z = c3 x (c3 y z) := by
  unfold c3; simp only [← get3_c3]; rfl
theorem c4_assoc (x y z : Cd) : c4 (c4 x y) z = c4 x (c4 y z) := by
  unfold c4; simp only [← get4_c4]; rfl
theorem getV_bh (a b : Mp) (i : Int) : getV (bh a b) i = c3 (getV b i) (getV a (get4 b.t i)) := by
  unfold bh
  by_cases h0 : i = 0
  · subst h0; rfl
  · by_cases h1 : i = 1
    · subst h1; rfl
    · by_cases h2 : i = 2
      · subst h2; rfl
      · simp only [getV, get4, if_neg h0, if_neg h1, if_neg h2]
theorem bh_assoc (a b c : Mp) : bh (bh a b) c = bh a (bh b c) := by
  show Mp.mk _ _ _ _ _ = Mp.mk _ _ _ _ _
  simp only [getV_bh]
  show Mp.mk (c4 (c4 _ _) _) _ _ _ _ = Mp.mk _ (c3 (c3 _ _) _) (c3 (c3 _ _) _) (c3 (c3 _ _) _) (c3 (c3 _ _) _)
  simp only [c3_assoc, c4_assoc]
  rfl
theorem get3_getV (m : Mp) (c : Cd) (i : Int) : get4 (img m c) i = get3 (getV m i) (get4 c (get4 m.t i)) := by
  unfold img
  by_cases h0 : i = 0
  · subst h0; rfl
  · by_cases h1 : i = 1
    · subst h1; rfl
    · by_cases h2 : i = 2
      · subst h2; rfl
      · simp only [getV, get4, if_neg h0, if_neg h1, if_neg h2]
theorem img_bh (a b : Mp) (c : Cd) : img (bh a b) c = img b (img a c) := by
  show Cd.mk _ _ _ _ = Cd.mk _ _ _ _
  simp only [get3_getV]
  show Cd.mk (get3 (c3 _ _) _) (get3 (c3 _ _) _) (get3 (c3 _ _) _) (get3 (c3 _ _) _) = _
  simp only [get3_c3]
  simp only [bh, c4]
theorem A3.pm_iff {x : A3} : x.pm = true ↔ ((0 ≤ x.a ∧ x.a ≤ 2) ∧ (0 ≤ x.b ∧ x.b ≤ 2) ∧ (0 ≤ x.c ∧ x.c ≤ 2) ∧ x.b ≠ x.a ∧ x.c ≠ x.a ∧ x.c ≠ x.b) := by unfold A3.pm; exact decide_eq_true_iff
theorem A3.six {x : A3} (h : x.pm = true) : x = ⟨0, 1, 2⟩ ∨ x = ⟨0, 2, 1⟩ ∨ x = ⟨1, 0, 2⟩ ∨ x = ⟨1, 2, 0⟩ ∨ x = ⟨2, 0, 1⟩ ∨ x = ⟨2, 1, 0⟩ := by
  obtain ⟨a, b, c⟩ := x
  simp only [A3.pm_iff, A3.mk.injEq] at h ⊢
  omega
theorem Mp.ok_iff {m : Mp} : m.ok = true ↔ m.v0.pm = true ∧ m.v1.pm = true ∧ m.v2.pm = true ∧ m.v3.pm = true ∧ m.t.pm = true := by
  unfold Mp.ok; simp only [Bool.and_eq_true, and_assoc]
instance : DecidableEq A3 := fun x y => if h : x.a = y.a ∧ x.b = y.b ∧ x.c = y.c then isTrue (by cases x; cases y; obtain ⟨h1, h2, h3⟩ := h; cases h1; cases h2; cases h3; rfl) else isFalse (fun e => h (by subst e; exact ⟨rfl, rfl, rfl⟩))
theorem c3_pm {x y : A3} (hx : x.pm = true) (hy : y.pm = true) : (c3 x y).pm = true := by
  rcases A3.six hx with rfl | rfl | rfl | rfl | rfl | rfl <;> rcases A3.six hy with rfl | rfl | rfl | rfl | rfl | rfl <;> decide
theorem c3_id {x : A3} : c3 x id3 = x := rfl
theorem id_c3 {x : A3} (hx : x.pm = true) : c3 id3 x = x := by
  rcases A3.six hx with rfl | rfl | rfl | rfl | rfl | rfl <;> decide
theorem s6 {x : A3} (hx : x.pm = true) : c3 x (c3 x (c3 x (c3 x (c3 x x)))) = id3 := by
  rcases A3.six hx with rfl | rfl | rfl | rfl | rfl | rfl <;> decide
theorem s23 {x : A3} (hx : x.pm = true) : c3 x x = id3 ∨ c3 x (c3 x x) = id3 := by
  rcases A3.six hx with rfl | rfl | rfl | rfl | rfl | rfl <;> decide
theorem cj2 {x y : A3} (hx : x.pm = true) (hy : y.pm = true) (h : c3 (c3 x y) (c3 x y) = id3) : c3 (c3 y x) (c3 y x) = id3 := by
  revert h
  rcases A3.six hx with rfl | rfl | rfl | rfl | rfl | rfl <;> rcases A3.six hy with rfl | rfl | rfl | rfl | rfl | rfl <;> decide
theorem cj3 {x y : A3} (hx : x.pm = true) (hy : y.pm = true) (h : c3 (c3 x y) (c3 (c3 x y) (c3 x y)) = id3) : c3 (c3 y x) (c3 (c3 y x) (c3 y x)) = id3 := by
  revert h
  rcases A3.six hx with rfl | rfl | rfl | rfl | rfl | rfl <;> rcases A3.six hy with rfl | rfl | rfl | rfl | rfl | rfl <;> decide
instance : DecidableEq Cd := fun x y => if h : x.a = y.a ∧ x.b = y.b ∧ x.c = y.c ∧ x.d = y.d then isTrue (Cd.ext' h.1 h.2.1 h.2.2.1 h.2.2.2) else isFalse (fun e => h (by subst e; exact ⟨rfl, rfl, rfl, rfl⟩))
theorem get4_pm {y : Cd} (hy : y.pm = true) {i : Int} : 0 ≤ get4 y i ∧ get4 y i ≤ 3 := by
  have h := Cd.pm_iff.1 hy
  unfold get4; split
  · omega
  · split
    · omega
    · split <;> omega
theorem getV_pm {m : Mp} (h : m.ok = true) (i : Int) : (getV m i).pm = true := by
  have h := Mp.ok_iff.1 h
  unfold getV; split
  · exact h.1
  · split
    · exact h.2.1
    · split
      · exact h.2.2.1
      · exact h.2.2.2.1
def get4_inj_tab : List Cd := [(⟨0,1,2,3⟩ : Cd), ⟨0,1,3,2⟩, ⟨0,2,1,3⟩, ⟨0,2,3,1⟩, ⟨0,3,1,2⟩, ⟨0,3,2,1⟩, ⟨1,0,2,3⟩, ⟨1,0,3,2⟩, ⟨1,2,0,3⟩, ⟨1,2,3,0⟩, ⟨1,3,0,2⟩, ⟨1,3,2,0⟩, ⟨2,0,1,3⟩, ⟨2,0,3,1⟩, ⟨2,1,0,3⟩, ⟨2,1,3,0⟩, ⟨2,3,0,1⟩, ⟨2,3,1,0⟩, ⟨3,0,1,2⟩, ⟨3,0,2,1⟩, ⟨3,1,0,2⟩, ⟨3,1,2,0⟩, ⟨3,2,0,1⟩, ⟨3,2,1,0⟩]
theorem c4_pm_tab : ∀ x ∈ get4_inj_tab, ∀ y ∈ get4_inj_tab, (c4 x y).pm = true := by decide
theorem c4_pm {x y : Cd} (hx : x.pm = true) (hy : y.pm = true) : (c4 x y).pm = true := c4_pm_tab x (Cd.four hx) y (Cd.four hy)
theorem bh_ok {a b : Mp} (ha : a.ok = true) (hb : b.ok = true) : (bh a b).ok = true := by
  have h := Mp.ok_iff.1 hb
  exact Mp.ok_iff.2 ⟨c3_pm h.1 (getV_pm ha _), c3_pm h.2.1 (getV_pm ha _), c3_pm h.2.2.1 (getV_pm ha _), c3_pm h.2.2.2.1 (getV_pm ha _), c4_pm (Mp.ok_iff.1 ha).2.2.2.2 h.2.2.2.2⟩
theorem c4_id {x : Cd} : c4 x id4 = x := rfl
theorem id_c4_tab : ∀ x ∈ get4_inj_tab, c4 id4 x = x := by decide
theorem id_c4 {x : Cd} (hx : x.pm = true) : c4 id4 x = x := id_c4_tab x (Cd.four hx)
theorem idM_ok : idM.ok = true := by decide
theorem bh_id {m : Mp} (hm : m.ok = true) : bh m idM = m := by
  have h := Mp.ok_iff.1 hm
  show Mp.mk (c4 m.t id4) (c3 id3 m.v0) (c3 id3 m.v1) (c3 id3 m.v2) (c3 id3 m.v3) = m
  rw [id_c3 h.1, id_c3 h.2.1, id_c3 h.2.2.1, id_c3 h.2.2.2.1]; rfl
theorem getV_id (i : Int) : getV idM i = id3 := by
  unfold getV; split
  · rfl
  · split
    · rfl
    · split <;> rfl
theorem id_bh {m : Mp} (hm : m.ok = true) : bh idM m = m := by
  show Mp.mk (c4 id4 m.t) (c3 m.v0 (getV idM _)) (c3 m.v1 (getV idM _)) (c3 m.v2 (getV idM _)) (c3 m.v3 (getV idM _)) = m
  rw [id_c4 (Mp.ok_iff.1 hm).2.2.2.2]
  simp only [getV_id]; rfl
def pow (m : Mp) : Nat → Mp
  | 0 => idM
  | k + 1 => bh (pow m k) m
theorem pow_ok {m : Mp} (hm : m.ok = true) (k : Nat) : (pow m k).ok = true := by
  induction k with
  | zero => exact idM_ok
  | succ k ih => exact bh_ok ih hm
theorem pow_one {m : Mp} (hm : m.ok = true) : pow m 1 = m := id_bh hm
theorem pow_add {m : Mp} (hm : m.ok = true) (i j : Nat) : pow m (i + j) = bh (pow m i) (pow m j) := by
  induction j with
  | zero => exact (bh_id (pow_ok hm i)).symm
  | succ j ih => show bh (pow m (i + j)) m = bh (pow m i) (bh (pow m j) m); rw [ih, bh_assoc]
theorem pow_front {m : Mp} (hm : m.ok = true) (k : Nat) : bh m (pow m k) = pow m (k + 1) := by
  rw [Nat.add_comm, pow_add hm, pow_one hm]
theorem pow_mul {m : Mp} (hm : m.ok = true) (i j : Nat) : pow m (i * j) = pow (pow m i) j := by
  induction j with
  | zero => rfl
  | succ j ih => rw [Nat.mul_succ, pow_add hm, ih]; rfl
theorem pow_id (k : Nat) : pow idM k = idM := by
  induction k with
  | zero => rfl
  | succ k ih => show bh (pow idM k) idM = idM; rw [ih]; exact bh_id idM_ok
theorem Mp.ext' {x y : Mp} (h : x.t = y.t) (h0 : x.v0 = y.v0) (h1 : x.v1 = y.v1) (h2 : x.v2 = y.v2) (h3 : x.v3 = y.v3) : x = y := by cases x; cases y; cases h; cases h0; cases h1; cases h2; cases h3; rfl
/-- A map that leaves the traits where they are: six times it is nothing. -/
theorem pow6 {m : Mp} (hm : m.ok = true) (ht : m.t = id4) : pow m 6 = idM := by
  have h := Mp.ok_iff.1 hm
  obtain ⟨t, v0, v1, v2, v3⟩ := m
  simp only at ht h
  subst ht
  have e : ∀ a b c d : A3, ∀ t : Cd, bh ⟨t, a, b, c, d⟩ ⟨id4, v0, v1, v2, v3⟩ = ⟨t, c3 v0 a, c3 v1 b, c3 v2 c, c3 v3 d⟩ := fun a b c d t => rfl
  have e1 : pow ⟨id4, v0, v1, v2, v3⟩ 6 = ⟨id4, c3 v0 (c3 v0 (c3 v0 (c3 v0 (c3 v0 (c3 v0 id3))))), c3 v1 (c3 v1 (c3 v1 (c3 v1 (c3 v1 (c3 v1 id3))))), c3 v2 (c3 v2 (c3 v2 (c3 v2 (c3 v2 (c3 v2 id3))))), c3 v3 (c3 v3 (c3 v3 (c3 v3 (c3 v3 (c3 v3 id3)))))⟩ := by simp only [pow, e]
  rw [e1]
  simp only [c3_id, s6 h.1, s6 h.2.1, s6 h.2.2.1, s6 h.2.2.2.1]
theorem pow_t {m : Mp} (k : Nat) : (pow m (k + 1)).t = c4 (pow m k).t m.t := rfl
theorem tab_t : ∀ x ∈ get4_inj_tab, c4 x x = id4 ∨ c4 (c4 x x) x = id4 ∨ (c4 (c4 (c4 x x) x) x = id4 ∧ x ∈ [(⟨1,2,3,0⟩ : Cd), ⟨1,3,0,2⟩, ⟨2,0,3,1⟩, ⟨2,3,1,0⟩, ⟨3,0,1,2⟩, ⟨3,2,0,1⟩]) := by decide
theorem pow_4 {m : Mp} (hm : m.ok = true) : pow m 4 = bh (bh m m) (bh m m) := by
  rw [show (4 : Nat) = 2 + 2 from rfl, pow_add hm]; show bh (bh (pow m 1) m) (bh (pow m 1) m) = _; rw [pow_one hm]
theorem bh4 {m : Mp} (i : Int) : getV (bh (bh m m) (bh m m)) i = c3 (c3 (getV m i) (getV m (get4 m.t i))) (c3 (getV m (get4 m.t (get4 m.t i))) (getV m (get4 m.t (get4 m.t (get4 m.t i))))) := by
  rw [getV_bh, getV_bh, getV_bh]
  show c3 _ (c3 (getV m (get4 (c4 _ _) _)) (getV m (get4 _ (get4 (c4 _ _) _)))) = _
  rw [get4_c4]
theorem cyc4 (m : Mp) (hm : m.ok = true) (h : m.t ∈ [(⟨1,2,3,0⟩ : Cd), ⟨1,3,0,2⟩, ⟨2,0,3,1⟩, ⟨2,3,1,0⟩, ⟨3,0,1,2⟩, ⟨3,2,0,1⟩]) (hq : (bh (bh m m) (bh m m)).t = id4) : pow m 8 = idM ∨ pow m 12 = idM := by
  have h4 := pow_4 hm
  have g : ∀ i, (getV m i).pm = true := getV_pm hm
  have key : ∀ p : A3 → Prop, (∀ x y : A3, x.pm = true → y.pm = true → p (c3 x y) → p (c3 y x)) → p (getV (bh (bh m m) (bh m m)) 0) → ∀ i, i ∈ [(0 : Int), 1, 2, 3] → p (getV (bh (bh m m) (bh m m)) i) := by
    intro p hc h0 i hi
    rw [bh4] at h0 ⊢
    rw [c3_assoc] at h0 ⊢
    have n1 := hc _ _ (g _) (c3_pm (g _) (c3_pm (g _) (g _))) h0
    rw [c3_assoc, c3_assoc] at n1
    have n2 := hc _ _ (g _) (c3_pm (g _) (c3_pm (g _) (g _))) n1
    rw [c3_assoc, c3_assoc] at n2
    have n3 := hc _ _ (g _) (c3_pm (g _) (c3_pm (g _) (g _))) n2
    rw [c3_assoc, c3_assoc] at n3
    simp only [List.mem_cons, List.not_mem_nil, or_false] at h hi
    rcases h with e | e | e | e | e | e <;> rw [e] at h0 n1 n2 n3 ⊢ <;> rcases hi with rfl | rfl | rfl | rfl <;> first | exact h0 | exact n1 | exact n2 | exact n3
  have hb : (bh (bh m m) (bh m m)).ok = true := bh_ok (bh_ok hm hm) (bh_ok hm hm)
  have e8 : pow m 8 = bh (bh (bh m m) (bh m m)) (bh (bh m m) (bh m m)) := by rw [show (8 : Nat) = 4 + 4 from rfl, pow_add hm, h4]
  have e12 : pow m 12 = bh (bh (bh m m) (bh m m)) (bh (bh (bh m m) (bh m m)) (bh (bh m m) (bh m m))) := by rw [show (12 : Nat) = 4 + (4 + 4) from rfl, pow_add hm, pow_add hm, h4]
  generalize bh (bh m m) (bh m m) = q at key hb e8 e12 hq
  have f : ∀ a : Mp, bh a q = ⟨a.t, c3 q.v0 a.v0, c3 q.v1 a.v1, c3 q.v2 a.v2, c3 q.v3 a.v3⟩ := by
    intro a; obtain ⟨t, v0, v1, v2, v3⟩ := q; simp only at hq; subst hq; rfl
  rcases s23 (getV_pm hb 0) with h2 | h3
  · left
    have k2 := key (fun x => c3 x x = id3) (fun x y hx hy => cj2 hx hy) h2
    rw [e8, f]
    exact Mp.ext' hq (k2 0 (by simp)) (k2 1 (by simp)) (k2 2 (by simp)) (k2 3 (by simp))
  · right
    have k3 := key (fun x => c3 x (c3 x x) = id3) (fun x y hx hy => cj3 hx hy) h3
    rw [e12, ← bh_assoc, f, f]
    exact Mp.ext' hq (k3 0 (by simp)) (k3 1 (by simp)) (k3 2 (by simp)) (k3 3 (by simp))
/-- No map has an order above 18. -/
theorem pow_ord {m : Mp} (hm : m.ok = true) : ∃ n, 1 ≤ n ∧ n ≤ 18 ∧ pow m n = idM := by
  have p2 : pow m 2 = bh m m := by show bh (pow m 1) m = _; rw [pow_one hm]
  rcases tab_t m.t (Cd.four (Mp.ok_iff.1 hm).2.2.2.2) with h | h | ⟨h, h'⟩
  · refine ⟨12, by omega, by omega, ?_⟩
    rw [show (12 : Nat) = 2 * 6 from rfl, pow_mul hm]
    exact pow6 (pow_ok hm 2) (by rw [p2]; exact h)
  · refine ⟨18, by omega, by omega, ?_⟩
    rw [show (18 : Nat) = 3 * 6 from rfl, pow_mul hm]
    exact pow6 (pow_ok hm 3) (by show (bh (pow m 2) m).t = _; rw [p2]; exact h)
  · rcases cyc4 m hm h' (by show c4 (c4 _ _) (c4 _ _) = _; rw [← c4_assoc]; exact h) with e | e
    · exact ⟨8, by omega, by omega, e⟩
    · exact ⟨12, by omega, by omega, e⟩
/-- A map behind which another one is as it was is nothing. -/
theorem c4_cancel_tab : ∀ x ∈ get4_inj_tab, ∀ y ∈ get4_inj_tab, c4 x y = y → x = id4 := by decide
theorem c3_cancel {x y : A3} (hx : x.pm = true) (hy : y.pm = true) (h : c3 x y = x) : y = id3 := by
  revert h
  rcases A3.six hx with rfl | rfl | rfl | rfl | rfl | rfl <;> rcases A3.six hy with rfl | rfl | rfl | rfl | rfl | rfl <;> decide
theorem bh_cancel {x m : Mp} (hx : x.ok = true) (hm : m.ok = true) (h : bh x m = m) : x = idM := by
  have k := Mp.ok_iff.1 hm
  have ht : c4 x.t m.t = m.t := congrArg Mp.t h
  have h0 := c3_cancel k.1 (getV_pm hx _) (congrArg Mp.v0 h : c3 m.v0 (getV x m.t.a) = m.v0)
  have h1 := c3_cancel k.2.1 (getV_pm hx _) (congrArg Mp.v1 h : c3 m.v1 (getV x m.t.b) = m.v1)
  have h2 := c3_cancel k.2.2.1 (getV_pm hx _) (congrArg Mp.v2 h : c3 m.v2 (getV x m.t.c) = m.v2)
  have h3 := c3_cancel k.2.2.2.1 (getV_pm hx _) (congrArg Mp.v3 h : c3 m.v3 (getV x m.t.d) = m.v3)
  have et := c4_cancel_tab x.t (Cd.four (Mp.ok_iff.1 hx).2.2.2.2) m.t (Cd.four k.2.2.2.2) ht
  have kt := Cd.pm_iff.1 k.2.2.2.2
  have all : ∀ i : Int, 0 ≤ i → i ≤ 3 → getV x i = id3 := by
    intro i i0 i3
    have : i = m.t.a ∨ i = m.t.b ∨ i = m.t.c ∨ i = m.t.d := by omega
    rcases this with e | e | e | e <;> subst e <;> assumption
  exact Mp.ext' et (all 0 (by omega) (by omega)) (all 1 (by omega) (by omega)) (all 2 (by omega) (by omega)) (all 3 (by omega) (by omega))
theorem least_of (P : Nat → Prop) (N : Nat) (h : ∃ n, 1 ≤ n ∧ n ≤ N ∧ P n) : ∃ K, 1 ≤ K ∧ K ≤ N ∧ P K ∧ ∀ j, 1 ≤ j → j < K → ¬ P j := by
  obtain ⟨n, h1, h2, h3⟩ := h
  induction n using Nat.strongRecOn with
  | _ n ih =>
    by_cases hc : ∃ j, 1 ≤ j ∧ j < n ∧ P j
    · obtain ⟨j, a, b, c⟩ := hc
      exact ih j b a (by omega) c
    · exact ⟨n, h1, h2, h3, fun j a b c => hc ⟨j, a, b, c⟩⟩
noncomputable def ordN (m : Mp) : Nat := if h : m.ok = true then (least_of _ _ (pow_ord h)).choose else 0
theorem ordN_spec {m : Mp} (hm : m.ok = true) : 1 ≤ ordN m ∧ ordN m ≤ 18 ∧ pow m (ordN m) = idM ∧ ∀ j, 1 ≤ j → j < ordN m → pow m j ≠ idM := by
  unfold ordN; rw [dif_pos hm]; exact (least_of _ _ (pow_ord hm)).choose_spec
theorem get3_pm {y : A3} (hy : y.pm = true) {i : Int} : 0 ≤ get3 y i ∧ get3 y i ≤ 2 := by
  have h := A3.pm_iff.1 hy
  unfold get3; split
  · omega
  · split <;> omega
theorem get4_ok {y : Cd} (hy : y.ok = true) {i : Int} : 0 ≤ get4 y i ∧ get4 y i ≤ 2 := by
  have h := Cd.ok_iff.1 hy
  unfold get4; split
  · omega
  · split
    · omega
    · split <;> omega
theorem img_ok {m : Mp} (hm : m.ok = true) (c : Cd) : (img m c).ok = true := by
  have k := Mp.ok_iff.1 hm
  exact Cd.ok_iff.2 ⟨get3_pm k.1, get3_pm k.2.1, get3_pm k.2.2.1, get3_pm k.2.2.2.1⟩
theorem get3_id {i : Int} (h : 0 ≤ i ∧ i ≤ 2) : get3 id3 i = i := by
  have : i = 0 ∨ i = 1 ∨ i = 2 := by omega
  rcases this with rfl | rfl | rfl <;> rfl
theorem img_id {c : Cd} (hc : c.ok = true) : img idM c = c := by
  have k := Cd.ok_iff.1 hc
  exact Cd.ext' (get3_id k.1) (get3_id k.2.1) (get3_id k.2.2.1) (get3_id k.2.2.2)
theorem img_pow (m : Mp) (k : Nat) (c : Cd) : img (pow m (k + 1)) c = img m (img (pow m k) c) := img_bh _ _ _
theorem orb_ex {m : Mp} (hm : m.ok = true) {c : Cd} (hc : c.ok = true) : ∃ n, 1 ≤ n ∧ n ≤ 18 ∧ img (pow m n) c = c := by
  obtain ⟨n, h1, h2, h3⟩ := pow_ord hm
  exact ⟨n, h1, h2, by rw [h3]; exact img_id hc⟩
noncomputable def orbN (m : Mp) (c : Cd) : Nat := if h : m.ok = true ∧ c.ok = true then (least_of _ _ (orb_ex h.1 h.2)).choose else 0
theorem orbN_spec {m : Mp} (hm : m.ok = true) {c : Cd} (hc : c.ok = true) : 1 ≤ orbN m c ∧ orbN m c ≤ 18 ∧ img (pow m (orbN m c)) c = c ∧ ∀ j, 1 ≤ j → j < orbN m c → img (pow m j) c ≠ c := by
  unfold orbN; rw [dif_pos ⟨hm, hc⟩]; exact (least_of _ _ (orb_ex hm hc)).choose_spec
def ordI (l : List Int) : Bool := (List.range l.length).all fun k => decide ((k : Int) ∈ l)
def prmI (l : List Int) : Bool := (List.range l.length).all fun k => decide (0 ≤ l.getD k 0 ∧ l.getD k 0 ≤ (l.length : Int) - 1 ∧ l.getD k 0 ∉ l.take k)
theorem ordI_3 (x : A3) : ordI [x.a, x.b, x.c] = x.pm := by
  rw [Bool.eq_iff_iff, A3.pm_iff]
  obtain ⟨a, b, c⟩ := x
  have e : ordI [a, b, c] = true ↔ ((0 : Int) = a ∨ (0 : Int) = b ∨ (0 : Int) = c) ∧ ((1 : Int) = a ∨ (1 : Int) = b ∨ (1 : Int) = c) ∧ ((2 : Int) = a ∨ (2 : Int) = b ∨ (2 : Int) = c) := by
    simp [ordI, show List.range 3 = [0, 1, 2] from rfl]
  rw [e]
  simp only
  omega
theorem ordI_4 (x : Cd) : ordI [x.a, x.b, x.c, x.d] = x.pm := by
  rw [Bool.eq_iff_iff, Cd.pm_iff]
  obtain ⟨a, b, c, d⟩ := x
  have e : ordI [a, b, c, d] = true ↔ ((0 : Int) = a ∨ (0 : Int) = b ∨ (0 : Int) = c ∨ (0 : Int) = d) ∧ ((1 : Int) = a ∨ (1 : Int) = b ∨ (1 : Int) = c ∨ (1 : Int) = d) ∧ ((2 : Int) = a ∨ (2 : Int) = b ∨ (2 : Int) = c ∨ (2 : Int) = d) ∧ ((3 : Int) = a ∨ (3 : Int) = b ∨ (3 : Int) = c ∨ (3 : Int) = d) := by
    simp [ordI, show List.range 4 = [0, 1, 2, 3] from rfl]
  rw [e]
  simp only
  constructor
  · rintro ⟨h0, h1, h2, h3⟩
    rcases h0 with rfl | rfl | rfl | rfl <;> rcases h1 with h1 | h1 | h1 | h1 <;> (try omega) <;> subst h1 <;> omega
  · rintro ⟨h0, h1, h2, h3, h⟩
    have a4 : a = 0 ∨ a = 1 ∨ a = 2 ∨ a = 3 := by omega
    have b4 : b = 0 ∨ b = 1 ∨ b = 2 ∨ b = 3 := by omega
    rcases a4 with rfl | rfl | rfl | rfl <;> rcases b4 with rfl | rfl | rfl | rfl <;> first | (exfalso; omega) | omega
theorem prmI_3 (x : A3) : prmI [x.a, x.b, x.c] = x.pm := by
  rw [Bool.eq_iff_iff, A3.pm_iff]
  obtain ⟨a, b, c⟩ := x
  simp [prmI, show List.range 3 = [0, 1, 2] from rfl]
  omega
theorem prmI_4 (x : Cd) : prmI [x.a, x.b, x.c, x.d] = x.pm := by
  rw [Bool.eq_iff_iff, Cd.pm_iff]
  obtain ⟨a, b, c, d⟩ := x
  simp [prmI, show List.range 4 = [0, 1, 2, 3] from rfl]
  omega
def Mp.li (m : Mp) : List Int := [m.t.a, m.t.b, m.t.c, m.t.d, m.v0.a, m.v0.b, m.v0.c, m.v1.a, m.v1.b, m.v1.c, m.v2.a, m.v2.b, m.v2.c, m.v3.a, m.v3.b, m.v3.c]
theorem int3 {i : Int} (h : 0 ≤ i ∧ i ≤ 2) : i = 0 ∨ i = 1 ∨ i = 2 := by omega
theorem int4 {i : Int} (h : 0 ≤ i ∧ i ≤ 3) : i = 0 ∨ i = 1 ∨ i = 2 ∨ i = 3 := by omega
end Go.Proofs.Ytfbcjcfhdclklaa.maps
