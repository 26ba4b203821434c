/- Cards in any order: places; piles; a hand without lines has at most 28 cards. -/
import Derived.Test.YtjanphcfflahkaaPm
namespace Go.Proofs.Ytjanphcfflahkaa.deal
open Go.RowKit
open cards
set_option linter.unusedVariables false

instance : DecidableEq Cd := fun x y => decidable_of_iff (same x y = true) same_iff
/-- Is a card in a list, in any order; and its place, or -1. -/
def hasC (l : List Cd) (c : Cd) : Bool := l.any (fun x => same x c)
def fi (c : Cd) : List Cd → Nat
  | [] => 0
  | x :: r => if same x c = true then 0 else fi c r + 1
def posn (l : List Cd) (c : Cd) : Int := if hasC l c = true then (fi c l : Int) else -1
theorem hasC_iff {l : List Cd} {c : Cd} : hasC l c = true ↔ c ∈ l := by
  unfold hasC
  rw [List.any_eq_true]
  constructor
  · rintro ⟨x, hx, h⟩; rw [← same_iff.1 h]; exact hx
  · intro h; exact ⟨c, h, same_iff.2 rfl⟩
theorem fi_at : ∀ {l : List Cd} {c x : Cd} {k : Nat}, l[k]? = some x → same x c = true → (∀ j y, j < k → l[j]? = some y → same y c = false) → fi c l = k
  | [], c, x, k, h, _, _ => by simp at h
  | y :: r, c, x, 0, h, hs, _ => by
    obtain rfl : y = x := by simpa using h
    simp [fi, hs]
  | y :: r, c, x, k + 1, h, hs, hu => by
    have h0 := hu 0 y (by omega) rfl
    have ih := fi_at (l := r) (k := k) (by simpa using h) hs (fun j z hj hz => hu (j + 1) z (by omega) (by simpa using hz))
    simp [fi, h0, ih]
theorem posn_at {l : List Cd} {c x : Cd} {k : Nat} (h : l[k]? = some x) (hs : same x c = true) (hu : ∀ j y, j < k → l[j]? = some y → same y c = false) : (k : Int) = posn l c := by
  unfold posn
  rw [if_pos (hasC_iff.2 (by rw [← same_iff.1 hs]; exact List.mem_of_getElem? h)), fi_at h hs hu]
theorem hasC_no {l : List Cd} {c : Cd} (hu : ∀ (j : Nat) (y : Cd), l[j]? = some y → same y c = false) : hasC l c = false := by
  cases h : hasC l c
  · rfl
  · obtain ⟨k, hk⟩ := List.mem_iff_getElem?.1 (hasC_iff.1 h)
    have := hu k c hk
    rw [same_iff.2 rfl] at this; cases this
theorem posn_none {l : List Cd} {c : Cd} (hu : ∀ (j : Nat) (y : Cd), l[j]? = some y → same y c = false) : -1 = posn l c := by
  unfold posn
  rw [hasC_no hu]; rfl
theorem posn_nn {l : List Cd} {c : Cd} : decide (0 ≤ posn l c) = hasC l c := by
  unfold posn
  cases hasC l c <;> simp
theorem nodup_at {l : List Cd} (hd : l.Nodup) {i j : Nat} {x : Cd} (hi : l[i]? = some x) (hj : l[j]? = some x) : i = j := by
  exact (List.getElem?_inj (List.getElem?_eq_some_iff.1 hi).1 hd).1 (hi.trans hj.symm)
theorem fi_nodup {l : List Cd} (hd : l.Nodup) {k : Nat} {c : Cd} (h : l[k]? = some c) : fi c l = k := fi_at h (same_iff.2 rfl) (fun j y hj hy => by
  cases hq : same y c
  · rfl
  · rw [same_iff.1 hq] at hy; exact absurd (nodup_at hd hy h) (by omega))
theorem fi_get : ∀ {l : List Cd} {c : Cd}, c ∈ l → l[fi c l]? = some c
  | [], c, h => by simp at h
  | x :: r, c, h => by
    by_cases hs : same x c = true
    · have e := same_iff.1 hs
      subst e
      simp [fi, hs]
    · have h' : c ∈ r := by
        rcases List.mem_cons.1 h with e | e
        · subst e; exact absurd (same_iff.2 rfl) hs
        · exact e
      simp [fi, hs, fi_get h']
theorem nodup_len : ∀ (l m : List Cd), l.Nodup → (∀ x ∈ l, x ∈ m) → l.length ≤ m.length
  | [], m, _, _ => Nat.zero_le _
  | x :: r, m, h, hs => by
    obtain ⟨h1, h2⟩ := List.nodup_cons.1 h
    have hm := hs x (by simp)
    have ih := nodup_len r (m.erase x) h2 (fun y hy => (List.mem_erase_of_ne (fun e => h1 (by rw [← e]; exact hy))).2 (hs y (by simp [hy])))
    have := List.length_erase_of_mem hm
    have := List.length_pos_of_mem hm
    simp; omega

/-! Piles. -/
def behind (s : Int) : Int := (25173 * s + 13849) % 65536
def isSd (s : Int) : Bool := decide (0 ≤ s ∧ s ≤ 65535)
def swp (l : List Cd) (i j : Nat) : List Cd := (l.set i (l.getD j zero)).set j (l.getD i zero)
def deck (n : Nat) : List Cd := (List.range n).map (fun k : Nat => cdAt (k : Int))
def sdAt (s : Int) : Nat → Int
  | 0 => s
  | k + 1 => behind (sdAt s k)
def swAt (s : Int) (k : Nat) : Nat := (sdAt s (k + 1) / 8 % (81 - (k : Int))).toNat
def pst (s : Int) : Nat → List Cd
  | 0 => deck 81
  | k + 1 => swp (pst s k) (80 - k) (swAt s k)
/-- Eighty, behind a name that nothing unfolds. -/
noncomputable def n80 : Nat := Classical.choose (⟨80, rfl⟩ : ∃ n : Nat, n = 80)
theorem n80_is : n80 = 80 := Classical.choose_spec (⟨80, rfl⟩ : ∃ n : Nat, n = 80)
noncomputable def pile (s : Int) : List Cd := pst s n80
theorem pile_is (s : Int) : pile s = pst s 80 := by unfold pile; rw [n80_is]
theorem behind_bd (s : Int) : 0 ≤ behind s ∧ behind s ≤ 65535 := by unfold behind; omega
theorem sdAt_bd {s : Int} (h : 0 ≤ s ∧ s ≤ 65535) : ∀ k, 0 ≤ sdAt s k ∧ sdAt s k ≤ 65535
  | 0 => h
  | k + 1 => behind_bd _
theorem swAt_lt {s : Int} (h : 0 ≤ s ∧ s ≤ 65535) {k : Nat} (hk : k < 81) : (swAt s k : Int) = sdAt s (k + 1) / 8 % (81 - (k : Int)) ∧ swAt s k < 81 - k := by
  have h1 := sdAt_bd h (k + 1)
  have h2 := Int.emod_nonneg (sdAt s (k + 1) / 8) (show (81 - (k : Int)) ≠ 0 by omega)
  have h3 := Int.emod_lt_of_pos (sdAt s (k + 1) / 8) (show 0 < (81 - (k : Int)) by omega)
  unfold swAt
  omega
theorem swp_len (l : List Cd) (i j : Nat) : (swp l i j).length = l.length := by simp [swp]
theorem deck_len (n : Nat) : (deck n).length = n := by simp [deck]
theorem pst_len (s : Int) : ∀ k, (pst s k).length = 81
  | 0 => deck_len 81
  | k + 1 => by rw [pst, swp_len, pst_len s k]
theorem pile_len (s : Int) : (pile s).length = 81 := pst_len s n80
theorem swp_perm {l : List Cd} {i j : Nat} (hi : i < l.length) (hj : j < l.length) : (swp l i j).Perm l := by
  unfold swp
  rw [show l.getD j zero = l[j] by simp [hj], show l.getD i zero = l[i] by simp [hi]]
  exact List.set_set_perm hi hj
theorem pst_perm {s : Int} (h : 0 ≤ s ∧ s ≤ 65535) : ∀ k, k ≤ 80 → (pst s k).Perm (deck 81)
  | 0, _ => List.Perm.refl _
  | k + 1, hk => by
    have h1 := (swAt_lt h (k := k) (by omega)).2
    exact (swp_perm (by rw [pst_len]; omega) (by rw [pst_len]; omega)).trans (pst_perm h k (by omega))
theorem deck_ok : (deck 81).all Cd.ok = true := by
  rw [List.all_eq_true]
  intro x hx
  obtain ⟨k, hk, rfl⟩ := List.mem_map.1 hx
  have := List.mem_range.1 hk
  exact cdAt_ok (by omega) (by omega)
theorem deck_nodup : (deck 81).Nodup := by
  unfold deck
  rw [List.nodup_iff_pairwise_ne, List.pairwise_map]
  refine List.Pairwise.imp_of_mem (R := fun a b => a ≠ b) ?_ (List.nodup_iff_pairwise_ne.1 List.nodup_range)
  intro a b ha hb hne e
  have h1 := List.mem_range.1 ha
  have h2 := List.mem_range.1 hb
  have := congrArg num e
  rw [cdAt_num (by omega) (by omega), cdAt_num (by omega) (by omega)] at this
  omega
theorem pile_perm {s : Int} (h : 0 ≤ s ∧ s ≤ 65535) : (pile s).Perm (deck 81) := pst_perm h n80 (by rw [n80_is]; omega)
theorem pile_nodup {s : Int} (h : 0 ≤ s ∧ s ≤ 65535) : (pile s).Nodup := (pile_perm h).nodup_iff.2 deck_nodup
theorem pile_ok {s : Int} (h : 0 ≤ s ∧ s ≤ 65535) : (pile s).all Cd.ok = true := by
  rw [List.all_eq_true]
  intro x hx
  exact List.all_eq_true.1 deck_ok x ((pile_perm h).mem_iff.1 hx)
/-! A hand without lines has at most 28 cards: through two of its cards there are 13 planes, and in each at most two cards more. -/
abbrev bd3 (x : Int) : Prop := 0 ≤ x ∧ x ≤ 2
theorem t_a {x y : Int} (hx : bd3 x) : (6 - (6 - x - y) % 3 - y) % 3 = x := by omega
theorem t_b (x y : Int) : (6 - x - y) % 3 = (6 - y - x) % 3 := by omega
theorem t_c {x : Int} (hx : bd3 x) : (6 - x - x) % 3 = x := by omega
theorem third_third {x y : Cd} (hx : x.ok = true) : third (third x y) y = x := by
  obtain ⟨h1, h2, h3, h4⟩ := Cd.bd hx
  unfold third; exact congr (congr (congr (congrArg Cd.mk (t_a h1)) (t_a h2)) (t_a h3)) (t_a h4)
theorem third_sym (x y : Cd) : third x y = third y x := by unfold third; exact congr (congr (congr (congrArg Cd.mk (t_b _ _)) (t_b _ _)) (t_b _ _)) (t_b _ _)
theorem third_self {x : Cd} (hx : x.ok = true) : third x x = x := by
  obtain ⟨h1, h2, h3, h4⟩ := Cd.bd hx
  unfold third; exact congr (congr (congr (congrArg Cd.mk (t_c h1)) (t_c h2)) (t_c h3)) (t_c h4)
theorem t_1 {y p q : Int} (hq : bd3 q) : (6 - (6 - (6 - y - p) % 3 - q) % 3 - (6 - y - p) % 3) % 3 = q := by omega
theorem t_2 {y p q : Int} (hp : bd3 p) : (6 - (6 - (6 - y - p) % 3 - q) % 3 - (6 - y - (6 - p - q) % 3) % 3) % 3 = p := by omega
theorem t_3 {y p q : Int} : (6 - y - (6 - (6 - y - p) % 3 - q) % 3) % 3 = (6 - (6 - y - q) % 3 - p) % 3 := by omega
theorem t_4 {y p q : Int} : (6 - (6 - y - p) % 3 - (6 - y - q) % 3) % 3 = (6 - y - (6 - p - q) % 3) % 3 := by omega
theorem third_1 {y p q : Cd} (hq : q.ok = true) : third (third (third y p) q) (third y p) = q := by
  obtain ⟨h1, h2, h3, h4⟩ := Cd.bd hq
  unfold third; exact congr (congr (congr (congrArg Cd.mk (t_1 h1)) (t_1 h2)) (t_1 h3)) (t_1 h4)
theorem third_2 {y p q : Cd} (hp : p.ok = true) : third (third (third y p) q) (third y (third p q)) = p := by
  obtain ⟨h1, h2, h3, h4⟩ := Cd.bd hp
  unfold third; exact congr (congr (congr (congrArg Cd.mk (t_2 h1)) (t_2 h2)) (t_2 h3)) (t_2 h4)
theorem third_3 (y p q : Cd) : third y (third (third y p) q) = third (third y q) p := by unfold third; exact congr (congr (congr (congrArg Cd.mk t_3) t_3) t_3) t_3
theorem third_4 (y p q : Cd) : third (third y p) (third y q) = third y (third p q) := by unfold third; exact congr (congr (congr (congrArg Cd.mk t_4) t_4) t_4) t_4
/-- No three cards of the list are a line. -/
def capP (l : List Cd) : Prop := ∀ x ∈ l, ∀ y ∈ l, x ≠ y → third x y ∉ l
/-- The six cards of a plane that is spanned by p, q and y, without the line of p and q. -/
def six (p q : Cd) (k : Nat) (y : Cd) : Cd := match k with
  | 0 => y
  | 1 => third (third y p) q
  | 2 => third (third y q) p
  | 3 => third y p
  | 4 => third y q
  | _ => third y (third p q)
def iv (k : Nat) : Nat := match k with
  | 1 => 2
  | 2 => 1
  | k => k
theorem six_ok {p q y : Cd} (hy : y.ok = true) (k : Nat) : (six p q k y).ok = true := by
  unfold six; split <;> first | exact hy | exact third_ok _ _
theorem six_iv {p q y : Cd} (hy : y.ok = true) : ∀ k : Nat, six p q k (six p q (iv k) y) = y
  | 0 => rfl
  | 1 => by
    show third (third (third (third y q) p) p) q = y
    rw [third_third (third_ok _ _), third_third hy]
  | 2 => by
    show third (third (third (third y p) q) q) p = y
    rw [third_third (third_ok _ _), third_third hy]
  | 3 => third_third hy
  | 4 => third_third hy
  | k + 5 => third_third hy
theorem iv_iv : ∀ k : Nat, iv (iv k) = k
  | 0 => rfl
  | 1 => rfl
  | 2 => rfl
  | 3 => rfl
  | 4 => rfl
  | k + 5 => rfl
def onL (p q z : Cd) : Prop := z = p ∨ z = q ∨ z = third p q
theorem six_on {p q z : Cd} (hp : p.ok = true) (hq : q.ok = true) (hz : onL p q z) (k : Nat) : onL p q (six p q k z) := by
  have e1 := third_self hp
  have e2 := third_self hq
  have e3 := third_self (third_ok p q)
  have e4 : third (third p q) q = p := third_third hp
  have e5 : third (third p q) p = q := by rw [third_sym p q]; exact third_third hq
  have e6 : third q p = third p q := third_sym _ _
  have e7 : third p (third p q) = q := by rw [third_sym]; exact e5
  have e8 : third q (third p q) = p := by rw [third_sym]; exact e4
  unfold onL at hz ⊢
  unfold six
  rcases hz with rfl | rfl | rfl <;> split <;> simp [e1, e2, e3, e4, e5, e6, e7, e8]
theorem six_off {p q z : Cd} (hp : p.ok = true) (hq : q.ok = true) (hz : z.ok = true) (h : ¬ onL p q z) (k : Nat) : ¬ onL p q (six p q k z) := fun e => h (by
  have h1 := six_on hp hq e (iv k)
  have h2 := six_iv (p := p) (q := q) hz (iv k)
  rw [iv_iv] at h2
  rw [h2] at h1; exact h1)
/-- Each bit of the list is at most so many. -/
theorem sum_le {D : List Cd} {f : Nat → Cd → Bool} (h : ∀ y ∈ D, (f 0 y).toNat + (f 1 y).toNat + (f 2 y).toNat + (f 3 y).toNat + (f 4 y).toNat + (f 5 y).toNat ≤ 2) :
    D.countP (f 0) + D.countP (f 1) + D.countP (f 2) + D.countP (f 3) + D.countP (f 4) + D.countP (f 5) ≤ 2 * D.length := by
  induction D with
  | nil => simp
  | cons y r ih =>
    have h0 := h y (by simp)
    have ih' := ih (fun z hz => h z (by simp [hz]))
    have hc : ∀ k, (y :: r).countP (f k) = r.countP (f k) + (f k y).toNat := fun k => by
      rw [List.countP_cons]; cases f k y <;> simp
    simp only [hc, List.length_cons]
    omega
theorem bits {a0 a1 a2 b0 b1 b2 : Bool} (h : (a0 && a1 && a2) = false) (h' : (b0 && b1 && b2) = false)
    (h1 : (a0 && b0) = false) (h2 : (a0 && b1) = false) (h3 : (a1 && b0) = false) (h4 : (a1 && b2) = false) (h5 : (a2 && b1) = false) (h6 : (a2 && b2) = false) :
    a0.toNat + a1.toNat + a2.toNat + b0.toNat + b1.toNat + b2.toNat ≤ 2 := by
  revert a0 a1 a2 b0 b1 b2; decide
theorem third_inj {x y z : Cd} (hx : x.ok = true) (hy : y.ok = true) (h : third x z = third y z) : x = y := by
  rw [← third_third (y := z) hx, h, third_third hy]
theorem count_split (P : Cd → Bool) : ∀ l : List Cd, l.length = l.countP P + l.countP (fun y => !P y)
  | [] => rfl
  | x :: r => by
    have := count_split P r
    rw [List.countP_cons, List.countP_cons, List.length_cons]
    cases P x <;> simp <;> omega
theorem cap_28 {l : List Cd} (hc : capP l) (hd : l.Nodup) (hok : l.all Cd.ok = true) : l.length ≤ 28 := by
  match l, hc, hd, hok with
  | [], _, _, _ => simp
  | [_], _, _, _ => simp
  | p :: q :: C, hc, hd, hok =>
    obtain ⟨n1, hd1⟩ := List.nodup_cons.1 hd
    obtain ⟨n2, hdC⟩ := List.nodup_cons.1 hd1
    have hk := List.all_eq_true.1 hok
    have hp : p.ok = true := hk p (by simp)
    have hq : q.ok = true := hk q (by simp)
    have hpq : p ≠ q := fun e => n1 (by rw [e]; simp)
    have hpC : p ∉ C := fun e => n1 (by simp [e])
    have hr : third p q ∉ p :: q :: C := hc p (by simp) q (by simp) hpq
    have hrC : third p q ∉ C := fun e => hr (by simp [e])
    let D := (deck 81).filter (fun y => !decide (y = p ∨ y = q ∨ y = third p q))
    let f : Nat → Cd → Bool := fun k y => decide (six p q k y ∈ C)
    have hdeck : ∀ x : Cd, x.ok = true → x ∈ deck 81 := fun x hx => by
      obtain ⟨⟨x1, x2⟩, ⟨x3, x4⟩, ⟨x5, x6⟩, x7, x8⟩ := Cd.bd hx
      refine List.mem_map.2 ⟨(num x).toNat, List.mem_range.2 (by unfold num; omega), ?_⟩
      obtain ⟨a, b, c, d⟩ := x
      simp only at x1 x2 x3 x4 x5 x6 x7 x8
      simp only [num, cdAt, Cd.mk.injEq]
      omega
    have hD : D.length ≤ 78 := by
      have h1 := count_split (fun y => decide (y = p ∨ y = q ∨ y = third p q)) (deck 81)
      have h2 : D.length = (deck 81).countP (fun y => !decide (y = p ∨ y = q ∨ y = third p q)) := by
        rw [List.countP_eq_length_filter]
      have h3 : 3 ≤ (deck 81).countP (fun y => decide (y = p ∨ y = q ∨ y = third p q)) := by
        rw [List.countP_eq_length_filter]
        refine nodup_len [p, q, third p q] _ ?_ ?_
        · have e1 : third p q ≠ p := fun e => hr (by simp [e])
          have e2 : third p q ≠ q := fun e => hr (by simp [e])
          simp [hpq, Ne.symm e1, Ne.symm e2]
        · intro x hx
          simp only [List.mem_cons, List.not_mem_nil, or_false] at hx
          refine List.mem_filter.2 ⟨hdeck x ?_, by simpa using hx⟩
          rcases hx with rfl | rfl | rfl
          · exact hp
          · exact hq
          · exact third_ok _ _
      rw [deck_len] at h1
      omega
    have hcnt : ∀ k, C.length ≤ D.countP (f k) := fun k => by
      rw [List.countP_eq_length_filter]
      have h0 := nodup_len (C.map (six p q (iv k))) (D.filter (f k)) ?_ ?_
      · simpa using h0
      · rw [List.nodup_iff_pairwise_ne, List.pairwise_map]
        refine List.Pairwise.imp_of_mem (R := fun a b => a ≠ b) ?_ (List.nodup_iff_pairwise_ne.1 hdC)
        intro a b ha hb hne e
        have := congrArg (six p q k) e
        rw [six_iv (hk a (by simp [ha])), six_iv (hk b (by simp [hb]))] at this
        exact hne this
      · intro x hx
        obtain ⟨c, hcC, rfl⟩ := List.mem_map.1 hx
        have hck : c.ok = true := hk c (by simp [hcC])
        refine List.mem_filter.2 ⟨List.mem_filter.2 ⟨hdeck _ (six_ok hck _), ?_⟩, ?_⟩
        · simp only [Bool.not_eq_true', decide_eq_false_iff_not]
          intro h
          have hs := six_iv (p := p) (q := q) hck k
          rcases six_on hp hq h k with e | e | e
          · rw [hs] at e; exact hpC (by rw [← e]; exact hcC)
          · rw [hs] at e; exact n2 (by rw [← e]; exact hcC)
          · rw [hs] at e; exact hrC (by rw [← e]; exact hcC)
        · simp only [f, decide_eq_true_eq]
          rw [six_iv hck]; exact hcC
    have hy : ∀ y ∈ D, (f 0 y).toNat + (f 1 y).toNat + (f 2 y).toNat + (f 3 y).toNat + (f 4 y).toNat + (f 5 y).toNat ≤ 2 := by
      intro y hyD
      obtain ⟨hy1, hy2⟩ := List.mem_filter.1 hyD
      have hyk : y.ok = true := List.all_eq_true.1 deck_ok y hy1
      have hL : ∀ a b z : Cd, a.ok = true → b.ok = true → third a b = z → a ≠ b → (z ∈ p :: q :: C) → (decide (a ∈ C) && decide (b ∈ C)) = false := by
        intro a b z ha hb hz hne hzC
        cases h1 : decide (a ∈ C) <;> cases h2 : decide (b ∈ C) <;> try rfl
        exact absurd hzC (by rw [← hz]; exact hc a (by simp [of_decide_eq_true h1]) b (by simp [of_decide_eq_true h2]) hne)
      have hoff : ¬ onL p q y := by simpa [onL] using hy2
      have hT : ∀ a b z : Cd, third a b = z → a ≠ b → (decide (a ∈ C) && decide (b ∈ C) && decide (z ∈ C)) = false := by
        intro a b z hz hne
        cases h1 : decide (a ∈ C) <;> cases h2 : decide (b ∈ C) <;> cases h3 : decide (z ∈ C) <;> try rfl
        exact absurd (List.mem_cons_of_mem p (List.mem_cons_of_mem q (of_decide_eq_true h3))) (by rw [← hz]; exact hc a (by simp [of_decide_eq_true h1]) b (by simp [of_decide_eq_true h2]) hne)
      have hpr : ∀ (i j : Nat) (z : Cd), third (six p q i y) (six p q j y) = z → onL p q z → (z ∈ p :: q :: C) → (decide (six p q i y ∈ C) && decide (six p q j y ∈ C)) = false := by
        intro i j z hz hon hzC
        refine hL _ _ z (six_ok hyk i) (six_ok hyk j) hz (fun e => ?_) hzC
        rw [e, third_self (six_ok hyk j)] at hz
        exact six_off hp hq hyk hoff j (by rw [hz]; exact hon)
      have np : onL p q p := .inl rfl
      have nq : onL p q q := .inr (.inl rfl)
      have mp : p ∈ p :: q :: C := by simp
      have mq : q ∈ p :: q :: C := by simp
      refine bits ?_ ?_ ?_ ?_ ?_ ?_ ?_ ?_
      · exact hT _ _ _ (third_3 y p q) (fun e => hpq (by
          have h1 : third y q = third (third (third y p) q) q := congrArg (fun z => third z q) e
          rw [third_third (third_ok _ _)] at h1
          exact third_inj hp hq (by rw [third_sym p y, third_sym q y]; exact h1.symm)))
      · exact hT _ _ _ (third_4 y p q) (fun e => hpq (third_inj hp hq (by rw [third_sym p y, third_sym q y]; exact e)))
      · exact hpr 0 3 p (by show third y (third y p) = p; rw [third_sym y p, third_sym]; exact third_third hp) np mp
      · exact hpr 0 4 q (by show third y (third y q) = q; rw [third_sym y q, third_sym]; exact third_third hq) nq mq
      · exact hpr 1 3 q (third_1 hq) nq mq
      · exact hpr 1 5 p (third_2 hp) np mp
      · exact hpr 2 4 p (third_1 hp) np mp
      · exact hpr 2 5 q (by show third (third (third y q) p) (third y (third p q)) = q; rw [third_sym p q]; exact third_2 hq) nq mq
    have h6 := sum_le (D := D) (f := f) hy
    have := hcnt 0
    have := hcnt 1
    have := hcnt 2
    have := hcnt 3
    have := hcnt 4
    have := hcnt 5
    simp only [List.length_cons]
    omega

end Go.Proofs.Ytjanphcfflahkaa.deal
