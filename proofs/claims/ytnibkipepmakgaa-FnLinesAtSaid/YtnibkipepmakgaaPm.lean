/- A card that is put into a hand; the hand of all cards of a list: what they are. -/
import Derived.Test.YtnibkipepmakgaaAn
namespace Go.Proofs.Ytnibkipepmakgaa.cards
open Go.RowKit
set_option linter.unusedVariables false

/-- The hand with one more card, or the same if it is there. -/
def put (l : List Cd) (c : Cd) : List Cd := if there l c = true then l else l.take (less l c) ++ c :: l.drop (less l c)
theorem less_cons (x : Cd) (r : List Cd) (c : Cd) : less (x :: r) c = if num x < num c then less r c + 1 else 0 := by
  unfold less; rw [List.takeWhile_cons]
  by_cases h : num x < num c
  · rw [if_pos (by simpa using h), if_pos h, List.length_cons]
  · rw [if_neg (by simpa using h), if_neg h]; rfl
theorem less_in : ∀ {l : List Cd} {c x : Cd} {i : Nat}, i < less l c → l[i]? = some x → num x < num c
  | [], c, x, i, h, hx => by simp at hx
  | y :: r, c, x, i, h, hx => by
    rw [less_cons] at h
    by_cases hy : num y < num c
    · rw [if_pos hy] at h
      cases i with
      | zero => simp at hx; subst hx; exact hy
      | succ i => exact less_in (l := r) (i := i) (by omega) (by simpa using hx)
    · rw [if_neg hy] at h; omega
theorem less_at : ∀ {l : List Cd} {c x : Cd}, l[less l c]? = some x → ¬ num x < num c
  | [], c, x, hx => by simp at hx
  | y :: r, c, x, hx => by
    rw [less_cons] at hx
    by_cases hy : num y < num c
    · rw [if_pos hy] at hx
      exact less_at (l := r) (by simpa using hx)
    · rw [if_neg hy] at hx
      simp at hx; subst hx; exact hy
theorem less_after {l : List Cd} {c x : Cd} {i : Nat} (hs : sorted l) (h : less l c ≤ i) (hx : l[i]? = some x) : ¬ num x < num c := by
  have hi := (List.getElem?_eq_some_iff.1 hx).1
  have hy : l[less l c]? = some l[less l c] := List.getElem?_eq_getElem (by omega)
  have h1 := less_at hy
  by_cases e : less l c = i
  · subst e; rw [hx] at hy; injection hy with hy; rw [hy]; exact h1
  · have := sorted_lt hs (show less l c < i by omega) hy hx
    omega
theorem there_mem {l : List Cd} {c : Cd} (hs : sorted l) (hok : l.all Cd.ok = true) (hc : c.ok = true) : there l c = true ↔ c ∈ l := by
  constructor
  · intro h
    obtain ⟨x, hx, hn⟩ := of_decide_eq_true h
    have := num_inj (ok_at hok hx) hc hn
    rw [← this]; exact List.mem_of_getElem? hx
  · intro h
    obtain ⟨k, hk⟩ := List.mem_iff_getElem?.1 h
    exact ((place_is (t := c) hs hk).1 rfl).1
theorem put_mem {l : List Cd} {c y : Cd} (hs : sorted l) (hok : l.all Cd.ok = true) (hc : c.ok = true) : y ∈ put l c ↔ y = c ∨ y ∈ l := by
  unfold put
  split
  · rename_i h
    have := (there_mem hs hok hc).1 h
    exact ⟨.inr, fun h => h.elim (fun e => e ▸ this) id⟩
  · rw [List.mem_append, List.mem_cons]
    conv => rhs; rw [← List.take_append_drop (less l c) l, List.mem_append]
    constructor
    · rintro (h | h | h)
      · exact .inr (.inl h)
      · exact .inl h
      · exact .inr (.inr h)
    · rintro (h | h | h)
      · exact .inr (.inl h)
      · exact .inl h
      · exact .inr (.inr h)
theorem put_ok {l : List Cd} {c : Cd} (hs : sorted l) (hok : l.all Cd.ok = true) (hc : c.ok = true) : (put l c).all Cd.ok = true := by
  rw [List.all_eq_true] at hok ⊢
  intro x hx
  rcases (put_mem hs (List.all_eq_true.2 hok) hc).1 hx with rfl | h
  · exact hc
  · exact hok x h
theorem put_sorted {l : List Cd} {c : Cd} (hs : sorted l) (hok : l.all Cd.ok = true) (hc : c.ok = true) : sorted (put l c) := by
  unfold put
  split
  · exact hs
  · rename_i h
    have hlt : ∀ x ∈ l.take (less l c), num x < num c := by
      intro x hx
      obtain ⟨i, hi⟩ := List.mem_iff_getElem?.1 hx
      rw [List.getElem?_take] at hi
      split at hi
      · rename_i h1; exact less_in h1 hi
      · cases hi
    have hgt : ∀ x ∈ l.drop (less l c), num c < num x := by
      intro x hx
      obtain ⟨i, hi⟩ := List.mem_iff_getElem?.1 hx
      rw [List.getElem?_drop] at hi
      have h1 := less_after hs (Nat.le_add_right _ _) hi
      have h2 : num x ≠ num c := fun e => h (by
        have := num_inj (ok_at hok hi) hc e
        subst this
        exact (there_mem hs hok hc).2 (List.mem_of_getElem? hi))
      omega
    unfold sorted at hs ⊢
    rw [List.pairwise_append]
    refine ⟨List.Pairwise.sublist (List.take_sublist _ _) hs, List.pairwise_cons.2 ⟨hgt, List.Pairwise.sublist (List.drop_sublist _ _) hs⟩, ?_⟩
    intro x hx y hy
    rcases List.mem_cons.1 hy with rfl | hy
    · exact hlt x hx
    · have := hlt x hx; have := hgt y hy; omega
/-- Two hands with the same cards are one. -/
theorem sorted_ext : ∀ {a b : List Cd}, sorted a → sorted b → (∀ x, x ∈ a ↔ x ∈ b) → a = b
  | [], [], _, _, _ => rfl
  | [], y :: r, _, _, h => by have := (h y).2 (by simp); cases this
  | x :: r, [], _, _, h => by have := (h x).1 (by simp); cases this
  | x :: r, y :: s, ha, hb, h => by
    obtain ⟨a1, a2⟩ := List.pairwise_cons.1 ha
    obtain ⟨b1, b2⟩ := List.pairwise_cons.1 hb
    have hxy : x = y := by
      rcases List.mem_cons.1 ((h x).1 (by simp)) with e | e
      · exact e
      · rcases List.mem_cons.1 ((h y).2 (by simp)) with e2 | e2
        · exact e2.symm
        · have h1 := b1 x e; have h2 := a1 y e2; omega
    subst hxy
    congr 1
    refine sorted_ext a2 b2 (fun z => ?_)
    constructor
    · intro hz
      have h1 := a1 z hz
      rcases List.mem_cons.1 ((h z).1 (List.mem_cons_of_mem _ hz)) with e | e
      · subst e; omega
      · exact e
    · intro hz
      have h1 := b1 z hz
      rcases List.mem_cons.1 ((h z).2 (List.mem_cons_of_mem _ hz)) with e | e
      · subst e; omega
      · exact e
theorem cdAt_num {n : Int} (h0 : 0 ≤ n) (h1 : n ≤ 80) : num (cdAt n) = n := by
  unfold num cdAt; simp only; omega
theorem num_cdAt {x : Cd} (h : x.ok = true) : cdAt (num x) = x := num_inj (cdAt_ok (num_bd h).1 (num_bd h).2) h (cdAt_num (num_bd h).1 (num_bd h).2)
/-- The cards of which P is true. -/
def cdsOf (P : Cd → Bool) (k : Nat) : List Cd := (nums P k).map cdAt
theorem nums_mem {P : Cd → Bool} {k : Nat} {n : Int} : n ∈ nums P k ↔ 0 ≤ n ∧ n < k ∧ P (cdAt n) = true := by
  unfold nums
  rw [List.mem_map]
  constructor
  · rintro ⟨i, hi, rfl⟩
    rw [List.mem_filter, List.mem_range] at hi
    exact ⟨by omega, by omega, hi.2⟩
  · rintro ⟨h0, h1, h2⟩
    refine ⟨n.toNat, ?_, by omega⟩
    rw [List.mem_filter, List.mem_range]
    have e : ((n.toNat : Nat) : Int) = n := by omega
    exact ⟨by omega, by rw [e]; exact h2⟩
theorem cdsOf_mem {P : Cd → Bool} {x : Cd} : x ∈ cdsOf P 81 ↔ x.ok = true ∧ P x = true := by
  unfold cdsOf
  rw [List.mem_map]
  constructor
  · rintro ⟨n, hn, rfl⟩
    obtain ⟨h0, h1, h2⟩ := nums_mem.1 hn
    exact ⟨cdAt_ok h0 (by omega), h2⟩
  · rintro ⟨h1, h2⟩
    refine ⟨num x, nums_mem.2 ⟨(num_bd h1).1, by have := (num_bd h1).2; omega, by rw [num_cdAt h1]; exact h2⟩, num_cdAt h1⟩
theorem nums_rise (P : Cd → Bool) : ∀ k : Nat, (nums P k).Pairwise (· < ·)
  | 0 => by simp [nums_zero]
  | k + 1 => by
    have ih := nums_rise P k
    cases h : P (cdAt (k : Int))
    · rw [nums_no h]; exact ih
    · rw [nums_yes h, List.pairwise_append]
      refine ⟨ih, by simp, ?_⟩
      intro a ha b hb
      have := (nums_mem.1 ha).2.1
      simp at hb; omega
theorem cdsOf_sorted (P : Cd → Bool) : sorted (cdsOf P 81) := by
  unfold sorted cdsOf
  rw [List.pairwise_map]
  refine List.Pairwise.imp_of_mem ?_ (nums_rise P 81)
  intro a b ha hb h
  obtain ⟨a0, a1, _⟩ := nums_mem.1 ha
  obtain ⟨b0, b1, _⟩ := nums_mem.1 hb
  rw [cdAt_num a0 (by omega), cdAt_num b0 (by omega)]; exact h
theorem cdsOf_yes {P : Cd → Bool} {k : Nat} (h : P (cdAt (k : Int)) = true) : cdsOf P (k + 1) = cdsOf P k ++ [cdAt (k : Int)] := by
  unfold cdsOf; rw [nums_yes h, List.map_append]; rfl
theorem cdsOf_no {P : Cd → Bool} {k : Nat} (h : P (cdAt (k : Int)) = false) : cdsOf P (k + 1) = cdsOf P k := by
  unfold cdsOf; rw [nums_no h]
theorem cdsOf_len (P : Cd → Bool) (k : Nat) : (cdsOf P k).length ≤ k := by
  unfold cdsOf; rw [List.length_map]; exact nums_len P k
/-- All cards of a list, put one after the other. -/
def allPut (l : List Cd) : List Cd := l.foldl put []
theorem allPut_snoc {l : List Cd} {k : Nat} {x : Cd} (hx : l[k]? = some x) : allPut (l.take (k + 1)) = put (allPut (l.take k)) x := by
  rw [take_snoc hx]; simp [allPut, List.foldl_append]
def isIn (l : List Cd) (x : Cd) : Bool := decide (∃ y ∈ l, num y = num x)
theorem isIn_iff {l : List Cd} {x : Cd} (hok : l.all Cd.ok = true) (hx : x.ok = true) : isIn l x = true ↔ x ∈ l := by
  unfold isIn
  rw [decide_eq_true_eq]
  constructor
  · rintro ⟨y, hy, e⟩
    have := num_inj (List.all_eq_true.1 hok y hy) hx e
    rw [← this]; exact hy
  · intro h; exact ⟨x, h, rfl⟩
theorem fold_put : ∀ (l m : List Cd), l.all Cd.ok = true → sorted m → m.all Cd.ok = true → sorted (l.foldl put m) ∧ (l.foldl put m).all Cd.ok = true ∧ ∀ x, x ∈ l.foldl put m ↔ x ∈ m ∨ x ∈ l
  | [], m, _, hs, hok => ⟨hs, hok, fun x => by simp⟩
  | y :: r, m, h, hs, hok => by
    rw [List.all_cons, Bool.and_eq_true] at h
    obtain ⟨h1, h2, h3⟩ := fold_put r (put m y) h.2 (put_sorted hs hok h.1) (put_ok hs hok h.1)
    refine ⟨h1, h2, fun x => ?_⟩
    rw [List.foldl_cons, h3, put_mem hs hok h.1, List.mem_cons]
    constructor
    · rintro ((h | h) | h)
      · exact .inr (.inl h)
      · exact .inl h
      · exact .inr (.inr h)
    · rintro (h | h | h)
      · exact .inl (.inr h)
      · exact .inl (.inl h)
      · exact .inr h
theorem allPut_is {l : List Cd} (hok : l.all Cd.ok = true) : sorted (allPut l) ∧ (allPut l).all Cd.ok = true ∧ ∀ x, x ∈ allPut l ↔ x ∈ l := by
  obtain ⟨h1, h2, h3⟩ := fold_put l [] hok List.Pairwise.nil rfl
  exact ⟨h1, h2, fun x => by rw [allPut, h3]; simp⟩
theorem allPut_cds {l : List Cd} (hok : l.all Cd.ok = true) : allPut l = cdsOf (isIn l) 81 := by
  obtain ⟨h1, h2, h3⟩ := allPut_is hok
  refine sorted_ext h1 (cdsOf_sorted _) (fun x => ?_)
  rw [h3, cdsOf_mem]
  constructor
  · intro h
    have hx := List.all_eq_true.1 hok x h
    exact ⟨hx, (isIn_iff hok hx).2 h⟩
  · rintro ⟨hx, h⟩; exact (isIn_iff hok hx).1 h
/-- A hand of cards has at most 81. -/
theorem sorted_81 {l : List Cd} (hs : sorted l) (hok : l.all Cd.ok = true) : l.length ≤ 81 := by
  have e : l = cdsOf (isIn l) 81 := by
    refine sorted_ext hs (cdsOf_sorted _) (fun x => ?_)
    rw [cdsOf_mem]
    constructor
    · intro h
      have hx := List.all_eq_true.1 hok x h
      exact ⟨hx, (isIn_iff hok hx).2 h⟩
    · rintro ⟨hx, h⟩; exact (isIn_iff hok hx).1 h
  rw [e]; exact cdsOf_len _ _
end Go.Proofs.Ytnibkipepmakgaa.cards
