/- Planes in a hand, counted: each is told by three of its cards. -/
import Derived.Test.YtdhcdogmbclhaaaYa
namespace Go.Proofs.Ytdhcdogmbclhaaa.planes
open Go.RowKit
open cards
set_option linter.unusedVariables false

theorem nodup_le {α : Type} : ∀ {a b : List α}, a.Nodup → (∀ x, x ∈ a → x ∈ b) → a.length ≤ b.length
  | [], b, _, _ => Nat.zero_le _
  | x :: r, b, hn, hs => by
    obtain ⟨s, t, rfl⟩ := List.append_of_mem (hs x (by simp))
    have hn' := List.nodup_cons.1 hn
    have ih := nodup_le (a := r) (b := s ++ t) hn'.2 (fun y hy => by
      have h := hs y (by simp [hy])
      rw [List.mem_append, List.mem_cons] at h
      rw [List.mem_append]
      rcases h with h | rfl | h
      · exact .inl h
      · exact absurd hy hn'.1
      · exact .inr h)
    simp only [List.length_append, List.length_cons] at ih ⊢
    omega
theorem nodup_eq {α : Type} {a b : List α} (ha : a.Nodup) (hb : b.Nodup) (h : ∀ x, x ∈ a ↔ x ∈ b) : a.length = b.length :=
  Nat.le_antisymm (nodup_le ha fun x hx => (h x).1 hx) (nodup_le hb fun x hx => (h x).2 hx)
theorem span_congr {l m : List Cd} (h : ∀ x, x ∈ l ↔ x ∈ m) : span l = span m := by
  unfold span
  have e : genB l = genB m := by
    funext c
    rw [Bool.eq_iff_iff, genB_iff, genB_iff]
    unfold Gen
    constructor
    · intro g S h1 h2; exact g S (fun x hx => h1 x ((h x).1 hx)) h2
    · intro g S h1 h2; exact g S (fun x hx => h1 x ((h x).2 hx)) h2
  rw [e]
theorem tri_all {a b c : Cd} (h : triB a b c = true) : [a, b, c].all Cd.ok = true := by
  obtain ⟨h1, h2, h3⟩ := triB_ok h
  simp [h1, h2, h3]
theorem tri_len {a b c : Cd} (h : triB a b c = true) : (span [a, b, c]).length = 9 := by
  obtain ⟨h1, h2, h3⟩ := triB_ok h
  rw [← sq_span h1 h2 h3]
  have hall := allPut_is (sq_ok a b c)
  have e := nodup_eq (sorted_nodup hall.1) (sq_nodup h) hall.2.2
  rw [e]; rfl
theorem tri_of {a b c : Cd} (ha : a.ok = true) (hb : b.ok = true) (hc : c.ok = true) (h1 : a ≠ b) (h2 : a ≠ c) (h3 : b ≠ c) (h4 : c ≠ third a b) : triB a b c = true := by
  have f : ∀ x y : Cd, x ≠ y → same x y = false := fun x y h => by rw [Bool.eq_false_iff]; exact fun e => h (same_iff.1 e)
  unfold triB
  simp [ha, hb, hc, f a b h1, f a c h2, f b c h3, f c _ h4]
theorem third_back {x y z : Cd} (hx : x.ok = true) (hy : y.ok = true) (hz : z.ok = true) (h : x = third z y) : z = third x y := by
  obtain ⟨a1, a2, a3, a4⟩ := x
  obtain ⟨b1, b2, b3, b4⟩ := y
  obtain ⟨c1, c2, c3, c4⟩ := z
  have k1 := Cd.bd hx
  have k2 := Cd.bd hy
  have k3 := Cd.bd hz
  simp only at k1 k2 k3
  simp only [third, Cd.mk.injEq] at h ⊢
  omega
theorem tri_turn {x y z : Cd} (h : triB x y z = true) : triB z y x = true := by
  obtain ⟨h1, h2, h3⟩ := triB_ok h
  obtain ⟨n1, n2, n3, n4⟩ := triB_ne h
  exact tri_of h3 h2 h1 (Ne.symm n3) (Ne.symm n2) (Ne.symm n1) (fun e => n4 (third_back h1 h2 h3 e))
/-- A plane is the span of each of its triangles. -/
theorem plane_is {a b c x y z : Cd} (h : triB a b c = true) (g : triB x y z = true) (hx : x ∈ span [a, b, c]) (hy : y ∈ span [a, b, c]) (hz : z ∈ span [a, b, c]) : span [x, y, z] = span [a, b, c] := by
  have hl := tri_all h
  have gl := tri_all g
  have sub : ∀ p, p ∈ span [x, y, z] → p ∈ span [a, b, c] := fun p hp => by
    refine (span_mem gl).1 hp (fun q => q ∈ span [a, b, c]) ?_ (fun u v hu hv => span_third hl hu hv)
    intro q hq
    simp only [List.mem_cons, List.not_mem_nil, or_false] at hq
    rcases hq with rfl | rfl | rfl
    · exact hx
    · exact hy
    · exact hz
  refine sorted_ext (span_sorted _) (span_sorted _) fun p => ⟨sub p, fun hp => ?_⟩
  refine Classical.byContradiction fun hn => ?_
  have hnd : (span [x, y, z] ++ [p]).Nodup := by
    rw [List.nodup_append]
    exact ⟨sorted_nodup (span_sorted _), by simp, fun u hu v hv e => by
      rw [List.mem_singleton] at hv
      rw [hv] at e
      rw [e] at hu
      exact hn hu⟩
  have := nodup_le hnd (b := span [a, b, c]) (fun q hq => by
    rcases List.mem_append.1 hq with hq | hq
    · exact sub q hq
    · rw [List.mem_singleton] at hq; rw [hq]; exact hp)
  rw [List.length_append, tri_len g, tri_len h] at this
  simp at this
/-- The place of the first card of a plane that is no line with its first two. -/
def pnB (P : List Cd) : Nat := if same (P.getD 2 zero) (third (P.getD 0 zero) (P.getD 1 zero)) = true then 3 else 2
/-- Are these three the cards that tell their plane? -/
noncomputable def frB (l : List Cd) (x y z : Cd) : Bool :=
  @decide (∀ p, p ∈ span [x, y, z] → p ∈ l) (Classical.propDecidable _) && (same ((span [x, y, z]).getD 0 zero) x && (same ((span [x, y, z]).getD 1 zero) y && same ((span [x, y, z]).getD (pnB (span [x, y, z])) zero) z))
theorem frB_iff {l : List Cd} {x y z : Cd} : frB l x y z = true ↔ (∀ p, p ∈ span [x, y, z] → p ∈ l) ∧ (span [x, y, z]).getD 0 zero = x ∧ (span [x, y, z]).getD 1 zero = y ∧ (span [x, y, z]).getD (pnB (span [x, y, z])) zero = z := by
  unfold frB
  rw [Bool.and_eq_true, Bool.and_eq_true, Bool.and_eq_true, same_iff, same_iff, same_iff]
  simp
theorem getD_at {P : List Cd} {n : Nat} (h : n < P.length) : P[n]? = some (P.getD n zero) := by
  rw [List.getD_eq_getElem?_getD, List.getElem?_eq_getElem h]; rfl
/-- A plane that is in a hand. -/
def isPl (l P : List Cd) : Prop := ∃ a b c, triB a b c = true ∧ P = span [a, b, c] ∧ ∀ p, p ∈ P → p ∈ l
/-- The three cards that tell a plane. -/
theorem pl_three {l P : List Cd} (h : isPl l P) : ∃ x y z, triB x y z = true ∧ P = span [x, y, z] ∧ num x < num y ∧ num y < num z ∧ x ∈ P ∧ y ∈ P ∧ z ∈ P ∧ P.getD 0 zero = x ∧ P.getD 1 zero = y ∧ P.getD (pnB P) zero = z := by
  obtain ⟨a, b, c, ht, rfl, hs⟩ := h
  have h9 := tri_len ht
  have hsrt := span_sorted [a, b, c]
  have hok := span_ok [a, b, c]
  have k0 := getD_at (P := span [a, b, c]) (n := 0) (by omega)
  have k1 := getD_at (P := span [a, b, c]) (n := 1) (by omega)
  have hp : pnB (span [a, b, c]) = 2 ∨ pnB (span [a, b, c]) = 3 := by unfold pnB; split <;> simp
  have k2 := getD_at (P := span [a, b, c]) (n := pnB (span [a, b, c])) (by omega)
  have l01 := sorted_lt hsrt (by omega) k0 k1
  have l12 := sorted_lt hsrt (by omega) k1 k2
  have l02 := sorted_lt hsrt (by omega) k0 k2
  have o0 := ok_at hok k0
  have o1 := ok_at hok k1
  have o2 := ok_at hok k2
  have hne : (span [a, b, c]).getD (pnB (span [a, b, c])) zero ≠ third ((span [a, b, c]).getD 0 zero) ((span [a, b, c]).getD 1 zero) := by
    unfold pnB
    split
    · rename_i e
      have e := same_iff.1 e
      have k2' := getD_at (P := span [a, b, c]) (n := 2) (by omega)
      have k3' := getD_at (P := span [a, b, c]) (n := 3) (by omega)
      have := sorted_lt hsrt (by omega) k2' k3'
      rw [← e]
      intro h; rw [h] at this; omega
    · rename_i e
      exact fun h => e (same_iff.2 h)
  have hd : ∀ u v : Cd, num u < num v → u ≠ v := fun u v h e => by rw [e] at h; omega
  have ht2 := tri_of o0 o1 o2 (hd _ _ l01) (hd _ _ l02) (hd _ _ l12) hne
  have m0 := List.mem_of_getElem? k0
  have m1 := List.mem_of_getElem? k1
  have m2 := List.mem_of_getElem? k2
  exact ⟨_, _, _, ht2, (plane_is ht ht2 m0 m1 m2).symm, l01, l12, m0, m1, m2, rfl, rfl, rfl⟩
def bef (i j k i' j' k' : Nat) : Prop := i' < i ∨ (i' = i ∧ (j' < j ∨ (j' = j ∧ k' < k)))
/-- What the program has found: places in falling order. -/
def fnd (l : List Cd) (i j k : Nat) (P : List Cd) : Prop := ∃ (i' j' k' : Nat) (a b c : Cd), k' < j' ∧ j' < i' ∧ bef i j k i' j' k' ∧ l[i']? = some a ∧ l[j']? = some b ∧ l[k']? = some c ∧ triB a b c = true ∧ P = span [a, b, c] ∧ ∀ p, p ∈ P → p ∈ l
theorem fnd_zero (l P : List Cd) : ¬ fnd l 0 0 0 P := by
  rintro ⟨i', j', k', a, b, c, h1, h2, h3, _⟩
  unfold bef at h3; omega
theorem fnd_step {l P : List Cd} {i j k : Nat} {a b c : Cd} (h1 : k < j) (h2 : j < i) (ha : l[i]? = some a) (hb : l[j]? = some b) (hc : l[k]? = some c) (ht : triB a b c = true) (hs : ∀ p, p ∈ span [a, b, c] → p ∈ l) :
    (fnd l i j k P ∨ P = span [a, b, c]) ↔ fnd l i j (k + 1) P := by
  constructor
  · rintro (⟨i', j', k', a', b', c', g1, g2, g3, g4⟩ | rfl)
    · exact ⟨i', j', k', a', b', c', g1, g2, by unfold bef at g3 ⊢; omega, g4⟩
    · exact ⟨i, j, k, a, b, c, h1, h2, by unfold bef; omega, ha, hb, hc, ht, rfl, hs⟩
  · rintro ⟨i', j', k', a', b', c', g1, g2, g3, e1, e2, e3, e4, e5, e6⟩
    by_cases e : i' = i ∧ j' = j ∧ k' = k
    · obtain ⟨rfl, rfl, rfl⟩ := e
      rw [ha] at e1; rw [hb] at e2; rw [hc] at e3
      injection e1 with e1; injection e2 with e2; injection e3 with e3
      subst e1; subst e2; subst e3
      exact .inr e5
    · exact .inl ⟨i', j', k', a', b', c', g1, g2, by unfold bef at g3 ⊢; omega, e1, e2, e3, e4, e5, e6⟩
theorem fnd_skip {l P : List Cd} {i j k : Nat} {a b c : Cd} (ha : l[i]? = some a) (hb : l[j]? = some b) (hc : l[k]? = some c) (hn : triB a b c = false ∨ ¬ ∀ p, p ∈ span [a, b, c] → p ∈ l) :
    fnd l i j k P ↔ fnd l i j (k + 1) P := by
  constructor
  · rintro ⟨i', j', k', a', b', c', g1, g2, g3, g4⟩
    exact ⟨i', j', k', a', b', c', g1, g2, by unfold bef at g3 ⊢; omega, g4⟩
  · rintro ⟨i', j', k', a', b', c', g1, g2, g3, e1, e2, e3, e4, e5, e6⟩
    by_cases e : i' = i ∧ j' = j ∧ k' = k
    · obtain ⟨rfl, rfl, rfl⟩ := e
      rw [ha] at e1; rw [hb] at e2; rw [hc] at e3
      injection e1 with e1; injection e2 with e2; injection e3 with e3
      subst e1; subst e2; subst e3; subst e5
      rcases hn with hn | hn
      · rw [hn] at e4; cases e4
      · exact absurd e6 hn
    · exact ⟨i', j', k', a', b', c', g1, g2, by unfold bef at g3 ⊢; omega, e1, e2, e3, e4, e5, e6⟩
theorem fnd_row {l P : List Cd} {i j : Nat} : fnd l i j j P ↔ fnd l i (j + 1) 0 P := by
  constructor
  · rintro ⟨i', j', k', a', b', c', g1, g2, g3, g4⟩
    exact ⟨i', j', k', a', b', c', g1, g2, by unfold bef at g3 ⊢; omega, g4⟩
  · rintro ⟨i', j', k', a', b', c', g1, g2, g3, g4⟩
    exact ⟨i', j', k', a', b', c', g1, g2, by unfold bef at g3 ⊢; omega, g4⟩
theorem fnd_next {l P : List Cd} {i : Nat} : fnd l i i 0 P ↔ fnd l (i + 1) 0 0 P := by
  constructor
  · rintro ⟨i', j', k', a', b', c', g1, g2, g3, g4⟩
    exact ⟨i', j', k', a', b', c', g1, g2, by unfold bef at g3 ⊢; omega, g4⟩
  · rintro ⟨i', j', k', a', b', c', g1, g2, g3, g4⟩
    exact ⟨i', j', k', a', b', c', g1, g2, by unfold bef at g3 ⊢; omega, g4⟩
/-- Places in a list in order. -/
theorem places {l : List Cd} (hs : sorted l) {x y : Cd} (hx : x ∈ l) (hy : y ∈ l) (h : num x < num y) : ∃ (i j : Nat), i < j ∧ l[i]? = some x ∧ l[j]? = some y := by
  obtain ⟨i, hi⟩ := List.getElem?_of_mem hx
  obtain ⟨j, hj⟩ := List.getElem?_of_mem hy
  rcases (show i < j ∨ i = j ∨ j < i by omega) with e | e | e
  · exact ⟨i, j, e, hi, hj⟩
  · subst e; rw [hi] at hj; injection hj with hj; rw [hj] at h; omega
  · have := sorted_lt hs e hj hi; omega
theorem place_one {l : List Cd} (hs : sorted l) {i j : Nat} {x : Cd} (hi : l[i]? = some x) (hj : l[j]? = some x) : i = j := by
  rcases (show i < j ∨ i = j ∨ j < i by omega) with e | e | e
  · have := sorted_lt hs e hi hj; omega
  · exact e
  · have := sorted_lt hs e hj hi; omega
theorem three_places {l : List Cd} (hs : sorted l) {x y z : Cd} (hx : x ∈ l) (hy : y ∈ l) (hz : z ∈ l) (h1 : num x < num y) (h2 : num y < num z) : ∃ (i j k : Nat), i < j ∧ j < k ∧ l[i]? = some x ∧ l[j]? = some y ∧ l[k]? = some z := by
  obtain ⟨i, j, h3, h4, h5⟩ := places hs hx hy h1
  obtain ⟨j', k, h6, h7, h8⟩ := places hs hy hz h2
  obtain rfl := place_one hs h5 h7
  exact ⟨i, j, k, h3, h6, h4, h5, h8⟩
theorem fnd_all {l P : List Cd} {n : Nat} (hn : l.length = n) (hs : sorted l) : fnd l n 0 0 P ↔ isPl l P := by
  constructor
  · rintro ⟨i', j', k', a, b, c, _, _, _, _, _, _, e4, e5, e6⟩
    exact ⟨a, b, c, e4, e5, e6⟩
  · intro h
    obtain ⟨x, y, z, ht, hP, l1, l2, m0, m1, m2, _⟩ := pl_three h
    obtain ⟨_, _, _, _, _, hsub⟩ := h
    obtain ⟨i, j, k, h1, h2, e1, e2, e3⟩ := three_places hs (hsub x m0) (hsub y m1) (hsub z m2) l1 l2
    have hk := (List.getElem?_eq_some_iff.1 e3).1
    refine ⟨k, j, i, z, y, x, h1, h2, by unfold bef; omega, e3, e2, e1, tri_turn ht, ?_, hsub⟩
    rw [hP]
    exact span_congr fun q => by simp only [List.mem_cons, List.not_mem_nil, or_false]; exact ⟨fun h => by rcases h with h | h | h <;> simp [h], fun h => by rcases h with h | h | h <;> simp [h]⟩
/-- What the model has counted: places in rising order, of the three cards that tell a plane. -/
def fndS (l : List Cd) (i k m : Nat) (P : List Cd) : Prop := ∃ (i' k' m' : Nat) (x y z : Cd), i' < k' ∧ k' < m' ∧ bef i k m i' k' m' ∧ l[i']? = some x ∧ l[k']? = some y ∧ l[m']? = some z ∧ third x y ∈ l ∧ z ≠ third x y ∧ frB l x y z = true ∧ P = span [x, y, z]
theorem fndS_zero (l P : List Cd) (k m : Nat) : ¬ fndS l 0 (0 + 1) (0 + 1 + 1) P := by
  rintro ⟨i', k', m', x, y, z, h1, h2, h3, _⟩
  unfold bef at h3; omega
theorem fndS_new {l : List Cd} (hs : sorted l) {i k m : Nat} {x y z : Cd} (hx : l[i]? = some x) (hy : l[k]? = some y) (hz : l[m]? = some z) (hf : frB l x y z = true) : ¬ fndS l i k m (span [x, y, z]) := by
  rintro ⟨i', k', m', x', y', z', _, _, h3, e1, e2, e3, _, _, hf', e5⟩
  obtain ⟨_, a1, a2, a3⟩ := frB_iff.1 hf
  obtain ⟨_, b1, b2, b3⟩ := frB_iff.1 hf'
  rw [← e5] at b1 b2 b3
  rw [b1] at a1
  rw [b2] at a2
  rw [b3] at a3
  subst a1; subst a2; subst a3
  have p1 := place_one hs hx e1
  have p2 := place_one hs hy e2
  have p3 := place_one hs hz e3
  unfold bef at h3; omega
theorem fndS_step {l P : List Cd} {i k m : Nat} {x y z : Cd} (h1 : i < k) (h2 : k < m) (hx : l[i]? = some x) (hy : l[k]? = some y) (hz : l[m]? = some z) (ht : third x y ∈ l) (hne : z ≠ third x y) (hf : frB l x y z = true) :
    (fndS l i k m P ∨ P = span [x, y, z]) ↔ fndS l i k (m + 1) P := by
  constructor
  · rintro (⟨i', j', k', a', b', c', g1, g2, g3, g4⟩ | rfl)
    · exact ⟨i', j', k', a', b', c', g1, g2, by unfold bef at g3 ⊢; omega, g4⟩
    · exact ⟨i, k, m, x, y, z, h1, h2, by unfold bef; omega, hx, hy, hz, ht, hne, hf, rfl⟩
  · rintro ⟨i', j', k', a', b', c', g1, g2, g3, e1, e2, e3, e4, e5, e6, e7⟩
    by_cases e : i' = i ∧ j' = k ∧ k' = m
    · obtain ⟨rfl, rfl, rfl⟩ := e
      rw [hx] at e1; rw [hy] at e2; rw [hz] at e3
      injection e1 with e1; injection e2 with e2; injection e3 with e3
      subst e1; subst e2; subst e3
      exact .inr e7
    · exact .inl ⟨i', j', k', a', b', c', g1, g2, by unfold bef at g3 ⊢; omega, e1, e2, e3, e4, e5, e6, e7⟩
theorem fndS_skip {l P : List Cd} {i k m : Nat} {x y z : Cd} (hx : l[i]? = some x) (hy : l[k]? = some y) (hz : l[m]? = some z) (hn : z = third x y ∨ frB l x y z = false) :
    fndS l i k m P ↔ fndS l i k (m + 1) P := by
  constructor
  · rintro ⟨i', j', k', a', b', c', g1, g2, g3, g4⟩
    exact ⟨i', j', k', a', b', c', g1, g2, by unfold bef at g3 ⊢; omega, g4⟩
  · rintro ⟨i', j', k', a', b', c', g1, g2, g3, e1, e2, e3, e4, e5, e6, e7⟩
    by_cases e : i' = i ∧ j' = k ∧ k' = m
    · obtain ⟨rfl, rfl, rfl⟩ := e
      rw [hx] at e1; rw [hy] at e2; rw [hz] at e3
      injection e1 with e1; injection e2 with e2; injection e3 with e3
      subst e1; subst e2; subst e3
      rcases hn with hn | hn
      · exact absurd hn e5
      · rw [hn] at e6; cases e6
    · exact ⟨i', j', k', a', b', c', g1, g2, by unfold bef at g3 ⊢; omega, e1, e2, e3, e4, e5, e6, e7⟩
/-- All places behind: on to the next place of the second card. -/
theorem fndS_row {l P : List Cd} {i k m : Nat} (hm : l.length ≤ m) : fndS l i k m P ↔ fndS l i (k + 1) (k + 1 + 1) P := by
  constructor
  · rintro ⟨i', j', k', a', b', c', g1, g2, g3, g4⟩
    exact ⟨i', j', k', a', b', c', g1, g2, by unfold bef at g3 ⊢; omega, g4⟩
  · rintro ⟨i', j', k', a', b', c', g1, g2, g3, e1, e2, e3, g4⟩
    have := (List.getElem?_eq_some_iff.1 e3).1
    exact ⟨i', j', k', a', b', c', g1, g2, by unfold bef at g3 ⊢; omega, e1, e2, e3, g4⟩
/-- The third card of the two is not there: on to the next place. -/
theorem fndS_jump {l P : List Cd} {i k : Nat} {x y : Cd} (hx : l[i]? = some x) (hy : l[k]? = some y) (hn : third x y ∉ l) : fndS l i k (k + 1) P ↔ fndS l i (k + 1) (k + 1 + 1) P := by
  constructor
  · rintro ⟨i', j', k', a', b', c', g1, g2, g3, g4⟩
    exact ⟨i', j', k', a', b', c', g1, g2, by unfold bef at g3 ⊢; omega, g4⟩
  · rintro ⟨i', j', k', a', b', c', g1, g2, g3, e1, e2, e3, e4, g4⟩
    by_cases e : i' = i ∧ j' = k
    · obtain ⟨rfl, rfl⟩ := e
      rw [hx] at e1; rw [hy] at e2
      injection e1 with e1; injection e2 with e2
      subst e1; subst e2
      exact absurd e4 hn
    · exact ⟨i', j', k', a', b', c', g1, g2, by unfold bef at g3 ⊢; omega, e1, e2, e3, e4, g4⟩
theorem fndS_next {l P : List Cd} {i k : Nat} (hk : l.length ≤ k) : fndS l i k (k + 1) P ↔ fndS l (i + 1) (i + 1 + 1) (i + 1 + 1 + 1) P := by
  constructor
  · rintro ⟨i', j', k', a', b', c', g1, g2, g3, g4⟩
    exact ⟨i', j', k', a', b', c', g1, g2, by unfold bef at g3 ⊢; omega, g4⟩
  · rintro ⟨i', j', k', a', b', c', g1, g2, g3, e1, e2, e3, g4⟩
    have := (List.getElem?_eq_some_iff.1 e3).1
    exact ⟨i', j', k', a', b', c', g1, g2, by unfold bef at g3 ⊢; omega, e1, e2, e3, g4⟩
theorem fndS_all {l P : List Cd} {n k m : Nat} (hn : l.length = n) (hs : sorted l) (hok : l.all Cd.ok = true) : fndS l n k m P ↔ isPl l P := by
  constructor
  · rintro ⟨i', j', k', x, y, z, g1, g2, _, e1, e2, e3, e4, e5, e6, e7⟩
    have l1 := sorted_lt hs g1 e1 e2
    have l2 := sorted_lt hs g2 e2 e3
    have l3 := sorted_lt hs (Nat.lt_trans g1 g2) e1 e3
    have hd : ∀ u v : Cd, num u < num v → u ≠ v := fun u v h e => by rw [e] at h; omega
    exact ⟨x, y, z, tri_of (ok_at hok e1) (ok_at hok e2) (ok_at hok e3) (hd _ _ l1) (hd _ _ l3) (hd _ _ l2) e5, e7, by rw [e7]; exact (frB_iff.1 e6).1⟩
  · intro h
    obtain ⟨x, y, z, ht, hP, l1, l2, m0, m1, m2, d0, d1, d2⟩ := pl_three h
    obtain ⟨_, _, _, _, _, hsub⟩ := h
    obtain ⟨i, j, k', h1, h2, e1, e2, e3⟩ := three_places hs (hsub x m0) (hsub y m1) (hsub z m2) l1 l2
    have hk := (List.getElem?_eq_some_iff.1 e3).1
    have hl := tri_all ht
    refine ⟨i, j, k', x, y, z, h1, h2, by unfold bef; omega, e1, e2, e3, hsub _ ?_, (triB_ne ht).2.2.2, frB_iff.2 ⟨by rw [← hP]; exact hsub, by rw [← hP]; exact d0, by rw [← hP]; exact d1, by rw [← hP]; exact d2⟩, hP⟩
    rw [hP] at m0 m1 ⊢
    exact span_third hl m0 m1
/-- How many planes are in a hand. -/
noncomputable def plN (l : List Cd) : Nat := @dite Nat (∃ Ls : List (List Cd), Ls.Nodup ∧ ∀ P, P ∈ Ls ↔ isPl l P) (Classical.propDecidable _) (fun h => (Classical.choose h).length) (fun _ => 0)
theorem plN_is {l : List Cd} {Ls : List (List Cd)} (h1 : Ls.Nodup) (h2 : ∀ P, P ∈ Ls ↔ isPl l P) : Ls.length = plN l := by
  have h : ∃ Ls : List (List Cd), Ls.Nodup ∧ ∀ P, P ∈ Ls ↔ isPl l P := ⟨Ls, h1, h2⟩
  unfold plN
  rw [dif_pos h]
  have hc := Classical.choose_spec h
  exact nodup_eq h1 hc.1 fun P => (h2 P).trans (hc.2 P).symm
noncomputable def cpR (l : List Cd) : Int × Bool := if handB l = true then ((plN l : Int), true) else (0, false)
end Go.Proofs.Ytdhcdogmbclhaaa.planes
