/- Ghosts of a hand: the model's lists of places, in order. -/
import Derived.Test.YtjmlefcmhjodeaaX4
namespace Go.Proofs.Ytjmlefcmhjodeaa.others
open Go.RowKit
open cards
set_option linter.unusedVariables false

/-- All lists of m places from a place on, below n, in ascending order. -/
def chS (n : Nat) : Nat → Nat → List (List Nat)
  | 0, _ => [[]]
  | m + 1, from_ => (List.range n).flatMap fun i => if from_ ≤ i then (chS n m (i + 1)).map (i :: ·) else []
/-- The same up to a place. -/
def chU (n m from_ k : Nat) : List (List Nat) := (List.range k).flatMap fun i => if from_ ≤ i then (chS n m (i + 1)).map (i :: ·) else []
theorem chU_step {n m from_ k : Nat} (h : from_ ≤ k) : chU n m from_ (k + 1) = chU n m from_ k ++ (chS n m (k + 1)).map (k :: ·) := by
  unfold chU
  rw [List.range_succ, List.flatMap_append]
  simp [h]
theorem chU_low {n m from_ k : Nat} (h : k ≤ from_) : chU n m from_ k = [] := by
  unfold chU
  rw [List.flatMap_eq_nil_iff]
  intro i hi
  have := List.mem_range.1 hi
  rw [if_neg (by omega)]
theorem chU_all (n m from_ : Nat) : chU n m from_ n = chS n (m + 1) from_ := rfl
def lexL : List Nat → List Nat → Prop
  | x :: s, y :: t => x < y ∨ (x = y ∧ lexL s t)
  | _, _ => False
theorem chS_len {n : Nat} : ∀ {m from_ : Nat} {c : List Nat}, c ∈ chS n m from_ → c.length = m
  | 0, _, c, h => by simp [chS] at h; subst h; rfl
  | m + 1, from_, c, h => by
    obtain ⟨i, hi, h⟩ := List.mem_flatMap.1 h
    split at h
    · obtain ⟨d, hd, rfl⟩ := List.mem_map.1 h
      simp [chS_len hd]
    · simp at h
theorem chS_lex (n : Nat) : ∀ (m from_ : Nat), (chS n m from_).Pairwise lexL
  | 0, _ => by simp [chS]
  | m + 1, from_ => by
    refine pw_rows (fun i => ?_) (fun i j hij x hx y hy => ?_) n
    · split
      · rw [List.pairwise_map]
        exact (chS_lex n m (i + 1)).imp (fun h => .inr ⟨rfl, h⟩)
      · exact .nil
    · split at hx
      · split at hy
        · obtain ⟨d, _, rfl⟩ := List.mem_map.1 hx
          obtain ⟨d', _, rfl⟩ := List.mem_map.1 hy
          exact .inl hij
        · simp at hy
      · simp at hx
/-- Ascending from a place on, below n. -/
def ascN (n : Nat) : Nat → List Nat → Prop
  | _, [] => True
  | from_, i :: s => from_ ≤ i ∧ i < n ∧ ascN n (i + 1) s
theorem chS_mem {n : Nat} : ∀ {m from_ : Nat} {c : List Nat}, c ∈ chS n m from_ ↔ c.length = m ∧ ascN n from_ c
  | 0, _, c => by
    simp only [chS, List.mem_singleton]
    constructor
    · rintro rfl; exact ⟨rfl, trivial⟩
    · rintro ⟨h, _⟩; exact List.length_eq_zero_iff.1 h
  | m + 1, from_, c => by
    rw [chS, List.mem_flatMap]
    constructor
    · rintro ⟨i, hi, h⟩
      have hi := List.mem_range.1 hi
      split at h
      · rename_i hf
        obtain ⟨d, hd, rfl⟩ := List.mem_map.1 h
        obtain ⟨h1, h2⟩ := chS_mem.1 hd
        exact ⟨by simp [h1], hf, hi, h2⟩
      · simp at h
    · rintro ⟨h1, h2⟩
      match c, h1, h2 with
      | i :: s, h1, ⟨h2, h3, h4⟩ =>
        refine ⟨i, List.mem_range.2 h3, ?_⟩
        rw [if_pos h2]
        exact List.mem_map.2 ⟨s, chS_mem.2 ⟨by simpa using h1, h4⟩, rfl⟩
/-- Six places as an array. -/
def a6 (c : List Nat) : A6 := ⟨(c.getD 0 0 : Nat), (c.getD 1 0 : Nat), (c.getD 2 0 : Nat), (c.getD 3 0 : Nat), (c.getD 4 0 : Nat), (c.getD 5 0 : Nat)⟩
/-- The cards at places. -/
def cdsAt (l : List Cd) (c : List Nat) : List Cd := c.map fun i => l.getD i zero
def gSel (l : List Cd) (c : List Nat) : Bool := thB 3 (cdsAt l c) []
/-- All ghosts of a hand, as the model finds them. -/
def allG (l : List Cd) : List A6 := ((chS l.length 6 0).filter (gSel l)).map a6
theorem list6 {α : Type} {l : List α} (h : l.length = 6) : ∃ a b c d e f, l = [a, b, c, d, e, f] := by
  match l, h with
  | [a, b, c, d, e, f], _ => exact ⟨a, b, c, d, e, f, rfl⟩
theorem allG_lex (l : List Cd) : (allG l).Pairwise lex6 := by
  unfold allG
  rw [List.pairwise_map]
  refine ((chS_lex l.length 6 0).filter _).imp_of_mem (fun {x y} hx hy h => ?_)
  have h1 := chS_len (List.mem_filter.1 hx).1
  have h2 := chS_len (List.mem_filter.1 hy).1
  obtain ⟨a, b, c, d, e, f, rfl⟩ := list6 h1
  obtain ⟨a', b', c', d', e', f', rfl⟩ := list6 h2
  simp only [lexL, or_false, and_false] at h
  unfold lex6 a6
  simp
  omega
section
variable {l : List Cd} (hs : sorted l) (hok : l.all Cd.ok = true)
include hs hok
theorem allG_mem {g : A6} : g ∈ allG l ↔ gOK l g := by
  unfold allG
  rw [List.mem_map]
  constructor
  · rintro ⟨c, hc, rfl⟩
    obtain ⟨hc, hg⟩ := List.mem_filter.1 hc
    obtain ⟨h6, ha⟩ := chS_mem.1 hc
    obtain ⟨i0, i1, i2, i3, i4, i5, rfl⟩ := list6 h6
    obtain ⟨_, l0, k1, l1, k2, l2, k3, l3, k4, l4, k5, l5, _⟩ := ha
    have get : ∀ i : Nat, i < l.length → l[i]? = some (l.getD i zero) := fun i h => by rw [List.getElem?_eq_getElem h]; simp [h]
    refine ⟨i0, i1, i2, i3, i4, i5, _, _, _, _, _, _, by omega, by omega, by omega, by omega, by omega, l5, rfl, get _ l0, get _ l1, get _ l2, get _ l3, get _ l4, get _ l5, ?_⟩
    exact ghost_only hg
  · rintro ⟨i0, i1, i2, i3, i4, i5, x0, x1, x2, x3, x4, x5, h01, h12, h23, h34, h45, h5, rfl, hx0, hx1, hx2, hx3, hx4, hx5, hz⟩
    have get : ∀ {i : Nat} {x : Cd}, l[i]? = some x → l.getD i zero = x := fun h => by rw [List.getD_eq_getElem?_getD, h]; rfl
    refine ⟨[i0, i1, i2, i3, i4, i5], List.mem_filter.2 ⟨chS_mem.2 ⟨rfl, ⟨Nat.zero_le _, by omega, by omega, by omega, by omega, by omega, by omega, by omega, by omega, by omega, by omega, by omega, trivial⟩⟩, ?_⟩, rfl⟩
    unfold gSel cdsAt
    simp only [List.map_cons, List.map_nil, get hx0, get hx1, get hx2, get hx3, get hx4, get hx5]
    exact ghost_if (ok_at hok hx0) (ok_at hok hx1) (ok_at hok hx2) (ok_at hok hx3) (ok_at hok hx4) (ok_at hok hx5) (hand_ne hs h12 hx1 hx2) hz
/-- What is found, sorted: the model's list. -/
theorem ghosts_sorted {K Q : List A6} (hK : K.Pairwise (· ≠ ·)) (hm : ∀ g, g ∈ K ↔ gOK l g) (hp : Q.Perm K) (hQ : ∀ (i j : Nat) (x y : A6), i < j → Q[i]? = some x → Q[j]? = some y → ¬ lex6 y x) : Q = allG l := by
  have hndQ : Q.Pairwise (· ≠ ·) := (hp.pairwise_iff (fun {a b} h => Ne.symm h)).2 hK
  refine pw_ext lex6_irr (fun a b => lex6_asy a b) ?_ (allG_lex l) (fun q => by rw [hp.mem_iff, hm, allG_mem hs hok])
  rw [List.pairwise_iff_getElem]
  intro i j hi hj hij
  have h1 := hQ i j Q[i] Q[j] hij (List.getElem?_eq_getElem hi) (List.getElem?_eq_getElem hj)
  have h2 := (List.pairwise_iff_getElem.1 hndQ) i j hi hj hij
  generalize Q[i] = x at *
  generalize Q[j] = y at *
  by_cases h3 : lex6 x y
  · exact h3
  · exfalso
    apply h2
    obtain ⟨a, b, c, d, e, f⟩ := x
    obtain ⟨a', b', c', d', e', f'⟩ := y
    unfold lex6 at h1 h3
    simp only at h1 h3
    rw [show a = a' by omega, show b = b' by omega, show c = c' by omega, show d = d' by omega, show e = e' by omega, show f = f' by omega]
end
end Go.Proofs.Ytjmlefcmhjodeaa.others
