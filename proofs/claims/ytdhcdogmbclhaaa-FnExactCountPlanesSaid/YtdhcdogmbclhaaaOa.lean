/- Spans of cards: the least list that has the third card of each two of its cards. -/
import Derived.Test.YtdhcdogmbclhaaaPm
import Derived.Test.YtdhcdogmbclhaaaPr
namespace Go.Proofs.Ytdhcdogmbclhaaa.planes
open Go.RowKit
open cards
set_option linter.unusedVariables false

theorem third_self {x : Cd} (h : x.ok = true) : third x x = x := by
  obtain ⟨a, b, c, d⟩ := x
  obtain ⟨⟨h1, h2⟩, ⟨h3, h4⟩, ⟨h5, h6⟩, h7, h8⟩ := Cd.bd h
  simp only at h1 h2 h3 h4 h5 h6 h7 h8
  simp only [third, Cd.mk.injEq]
  omega
/-- The card is in each set that has the list and the third card of each two of its own. -/
def Gen (l : List Cd) (c : Cd) : Prop := ∀ S : Cd → Prop, (∀ x, x ∈ l → S x) → (∀ x y, S x → S y → S (third x y)) → S c
theorem Gen.base {l : List Cd} {c : Cd} (h : c ∈ l) : Gen l c := fun S h1 _ => h1 c h
theorem Gen.third {l : List Cd} {x y : Cd} (hx : Gen l x) (hy : Gen l y) : Gen l (third x y) := fun S h1 h2 => h2 _ _ (hx S h1 h2) (hy S h1 h2)
theorem Gen.ok {l : List Cd} {c : Cd} (hl : l.all Cd.ok = true) (h : Gen l c) : c.ok = true :=
  h (fun x => x.ok = true) (fun x hx => List.all_eq_true.1 hl x hx) (fun x y _ _ => third_ok x y)
noncomputable def genB (l : List Cd) (c : Cd) : Bool := @decide (Gen l c) (Classical.propDecidable _)
theorem genB_iff {l : List Cd} {c : Cd} : genB l c = true ↔ Gen l c := by simp [genB]
/-- The span of a list of cards, in ascending order. -/
noncomputable def span (l : List Cd) : List Cd := cdsOf (genB l) 81
theorem span_mem {l : List Cd} {c : Cd} (hl : l.all Cd.ok = true) : c ∈ span l ↔ Gen l c := by
  unfold span
  rw [cdsOf_mem, genB_iff]
  exact ⟨fun h => h.2, fun h => ⟨h.ok hl, h⟩⟩
theorem span_sorted (l : List Cd) : sorted (span l) := cdsOf_sorted _
theorem span_ok (l : List Cd) : (span l).all Cd.ok = true := List.all_eq_true.2 fun x hx => (cdsOf_mem.1 hx).1
theorem span_le (l : List Cd) : (span l).length ≤ 81 := sorted_81 (span_sorted l) (span_ok l)
theorem span_third {l : List Cd} {x y : Cd} (hl : l.all Cd.ok = true) (hx : x ∈ span l) (hy : y ∈ span l) : third x y ∈ span l :=
  (span_mem hl).2 (((span_mem hl).1 hx).third ((span_mem hl).1 hy))
theorem span_sub {l : List Cd} {x : Cd} (hl : l.all Cd.ok = true) (hx : x ∈ l) : x ∈ span l := (span_mem hl).2 (Gen.base hx)
/-- A list in order that has the cards, is closed and has no more than must be. -/
theorem span_is {l m : List Cd} (hl : l.all Cd.ok = true) (hm : sorted m) (h1 : ∀ x, x ∈ l → x ∈ m) (h2 : ∀ x, x ∈ m → Gen l x) (h3 : ∀ x, x ∈ m → ∀ y, y ∈ m → third x y ∈ m) : m = span l :=
  sorted_ext hm (span_sorted l) fun x => ⟨fun h => (span_mem hl).2 (h2 x h), fun h => (span_mem hl).1 h (fun y => y ∈ m) h1 (fun x y hx hy => h3 x hx y hy)⟩
theorem closed_of {m : List Cd} {n : Nat} (hn : m.length ≤ n) (hok : m.all Cd.ok = true) (h : ∀ (i k : Nat) (x y : Cd), k < i → i < n → m[i]? = some x → m[k]? = some y → third x y ∈ m) : ∀ x, x ∈ m → ∀ y, y ∈ m → third x y ∈ m := by
  intro x hx y hy
  obtain ⟨i, hi⟩ := List.getElem?_of_mem hx
  obtain ⟨k, hk⟩ := List.getElem?_of_mem hy
  have li := (List.getElem?_eq_some_iff.1 hi).1
  have lk := (List.getElem?_eq_some_iff.1 hk).1
  rcases (show k < i ∨ k = i ∨ i < k by omega) with e | e | e
  · exact h i k x y e (by omega) hi hk
  · subst e
    rw [hi] at hk; injection hk with hk; subst hk
    rw [third_self (List.all_eq_true.1 hok x hx)]; exact hx
  · rw [third_comm]; exact h k i y x e (by omega) hk hi
theorem span_nil : span [] = [] := by
  symm
  exact span_is rfl List.Pairwise.nil (fun _ h => h) (fun x h => absurd h (by simp)) (fun x h => absurd h (by simp))
/-- What the span of a hand has at the least. -/
theorem span_ge {l : List Cd} (hl : l.all Cd.ok = true) (hs : sorted l) : l.length ≤ (span l).length := by
  have h : l.Sublist (span l) → l.length ≤ (span l).length := fun h => h.length_le
  have e : l = cdsOf (fun x => @decide (x ∈ l) (Classical.propDecidable _)) 81 := sorted_ext hs (cdsOf_sorted _) fun x => by
    rw [cdsOf_mem]; simp
    exact fun h => List.all_eq_true.1 hl x h
  have e2 := congrArg List.length e
  rw [e2]
  unfold span
  simp only [cdsOf, nums, List.length_map]
  rw [← List.countP_eq_length_filter, ← List.countP_eq_length_filter]
  refine List.countP_mono_left ?_
  intro i hi h
  simp only [decide_eq_true_eq] at h
  rw [genB_iff]
  exact Gen.base h

/-- The model's search at the pair of places i and k: what is known of the list so far. -/
structure SpI (l m : List Cd) (i k : Nat) : Prop where
  srt : sorted m
  ok : m.all Cd.ok = true
  sup : ∀ x, x ∈ l → x ∈ m
  gen : ∀ x, x ∈ m → Gen l x
  cl : ∀ (a b : Nat) (x y : Cd), b < a → (a < i ∨ (a = i ∧ b < k)) → m[a]? = some x → m[b]? = some y → third x y ∈ m
theorem SpI.start {l : List Cd} (hl : l.all Cd.ok = true) : SpI l (allPut l) 0 0 :=
  have h := allPut_is hl
  ⟨h.1, h.2.1, fun x hx => (h.2.2 x).2 hx, fun x hx => Gen.base ((h.2.2 x).1 hx), fun a b x y _ h => by omega⟩
theorem SpI.keep {l m : List Cd} {i k : Nat} {x y : Cd} (h : SpI l m i k) (hx : m[i]? = some x) (hy : m[k]? = some y) (ht : there m (third x y) = true) : SpI l m i (k + 1) :=
  ⟨h.srt, h.ok, h.sup, h.gen, fun a b x' y' hab hc ha hb => by
    by_cases e : a = i ∧ b = k
    · obtain ⟨rfl, rfl⟩ := e
      rw [hx] at ha; rw [hy] at hb
      injection ha with ha; injection hb with hb
      subst ha; subst hb
      exact (there_mem h.srt h.ok (third_ok _ _)).1 ht
    · exact h.cl a b x' y' hab (by omega) ha hb⟩
theorem SpI.more {l m : List Cd} {i k : Nat} {x y : Cd} (h : SpI l m i k) (hx : m[i]? = some x) (hy : m[k]? = some y) : SpI l (put m (third x y)) 0 0 :=
  have hg := (h.gen x (List.mem_of_getElem? hx)).third (h.gen y (List.mem_of_getElem? hy))
  ⟨put_sorted h.srt h.ok (third_ok _ _), put_ok h.srt h.ok (third_ok _ _), fun z hz => (put_mem h.srt h.ok (third_ok _ _)).2 (.inr (h.sup z hz)), fun z hz => by
    rcases (put_mem h.srt h.ok (third_ok _ _)).1 hz with rfl | hz
    · exact hg
    · exact h.gen z hz, fun a b x y _ h => by omega⟩
theorem SpI.next {l m : List Cd} {i : Nat} (h : SpI l m i i) : SpI l m (i + 1) 0 := ⟨h.srt, h.ok, h.sup, h.gen, fun a b x y hab hc => h.cl a b x y hab (by omega)⟩
theorem SpI.le {l m : List Cd} {i k : Nat} (h : SpI l m i k) : m.length ≤ 81 := sorted_81 h.srt h.ok
theorem SpI.done {l m : List Cd} {i k : Nat} (hl : l.all Cd.ok = true) (h : SpI l m i k) (hi : m.length ≤ i) : m = span l :=
  span_is hl h.srt h.sup h.gen (closed_of hi h.ok fun a b x y hab ha hx hy => h.cl a b x y hab (.inl ha) hx hy)
theorem put_len {l : List Cd} {c : Cd} (h : there l c = false) : (put l c).length = l.length + 1 := by
  unfold put
  rw [if_neg (by simp [h]), List.length_append, List.length_cons, List.length_take, List.length_drop]
  have := less_le l c
  omega
theorem put_perm {l : List Cd} {c : Cd} (h : there l c = false) : (l ++ [c]).Perm (put l c) := by
  unfold put
  rw [if_neg (by simp [h])]
  have e : l ++ [c] = l.take (less l c) ++ (l.drop (less l c) ++ [c]) := by rw [← List.append_assoc, List.take_append_drop]
  rw [e]
  exact List.Perm.append_left _ (List.perm_append_comm (l₁ := l.drop (less l c)) (l₂ := [c]))

/-- The program's search: the list is in the order of finding; m has the same cards in order. -/
structure SpJ (l r m : List Cd) (i k : Nat) : Prop where
  perm : r.Perm m
  srt : sorted m
  ok : m.all Cd.ok = true
  sup : ∀ x, x ∈ l → x ∈ m
  gen : ∀ x, x ∈ m → Gen l x
  cl : ∀ (a b : Nat) (x y : Cd), b < a → (a < i ∨ (a = i ∧ b < k)) → r[a]? = some x → r[b]? = some y → third x y ∈ m
theorem SpJ.start {l : List Cd} (hl : l.all Cd.ok = true) (hs : sorted l) : SpJ l l l 0 0 :=
  ⟨List.Perm.refl _, hs, hl, fun _ h => h, fun _ h => Gen.base h, fun a b x y _ h => by omega⟩
theorem SpJ.rok {l r m : List Cd} {i k : Nat} (h : SpJ l r m i k) : r.all Cd.ok = true := List.all_eq_true.2 fun x hx => List.all_eq_true.1 h.ok x (h.perm.mem_iff.1 hx)
theorem SpJ.keep {l r m : List Cd} {i k : Nat} {x y : Cd} (h : SpJ l r m i k) (hx : r[i]? = some x) (hy : r[k]? = some y) (ht : third x y ∈ r) : SpJ l r m i (k + 1) :=
  ⟨h.perm, h.srt, h.ok, h.sup, h.gen, fun a b x' y' hab hc ha hb => by
    by_cases e : a = i ∧ b = k
    · obtain ⟨rfl, rfl⟩ := e
      rw [hx] at ha; rw [hy] at hb
      injection ha with ha; injection hb with hb
      subst ha; subst hb
      exact h.perm.mem_iff.1 ht
    · exact h.cl a b x' y' hab (by omega) ha hb⟩
theorem SpJ.le {l r m : List Cd} {i k : Nat} (h : SpJ l r m i k) : r.length ≤ 81 := by rw [h.perm.length_eq]; exact sorted_81 h.srt h.ok
theorem SpJ.more {l r m : List Cd} {i k : Nat} {x y : Cd} (h : SpJ l r m i k) (hx : r[i]? = some x) (hy : r[k]? = some y) (hki : k < i) (ht : third x y ∉ r) : SpJ l (r ++ [third x y]) (put m (third x y)) i (k + 1) := by
  have hno : there m (third x y) = false := by
    rw [Bool.eq_false_iff]; intro hh
    exact ht (h.perm.mem_iff.2 ((there_mem h.srt h.ok (third_ok _ _)).1 hh))
  have hg := (h.gen x (h.perm.mem_iff.1 (List.mem_of_getElem? hx))).third (h.gen y (h.perm.mem_iff.1 (List.mem_of_getElem? hy)))
  have hm := fun z => put_mem h.srt h.ok (third_ok x y) (y := z)
  have hi := (List.getElem?_eq_some_iff.1 hx).1
  have old : ∀ a z, a ≤ i → (r ++ [third x y])[a]? = some z → r[a]? = some z := fun a z ha hz => by
    rw [List.getElem?_append_left (by omega)] at hz; exact hz
  refine ⟨(h.perm.append_right _).trans (put_perm hno), put_sorted h.srt h.ok (third_ok _ _), put_ok h.srt h.ok (third_ok _ _), fun z hz => (hm z).2 (.inr (h.sup z hz)), fun z hz => ?_, fun a b x' y' hab hc ha hb => ?_⟩
  · rcases (hm z).1 hz with rfl | hz
    · exact hg
    · exact h.gen z hz
  · have ha' := old a x' (by omega) ha
    have hb' := old b y' (by omega) hb
    by_cases e : a = i ∧ b = k
    · obtain ⟨rfl, rfl⟩ := e
      rw [hx] at ha'; rw [hy] at hb'
      injection ha' with ha'; injection hb' with hb'
      subst ha'; subst hb'
      exact (hm _).2 (.inl rfl)
    · exact (hm _).2 (.inr (h.cl a b x' y' hab (by omega) ha' hb'))
theorem SpJ.next {l r m : List Cd} {i : Nat} (h : SpJ l r m i i) : SpJ l r m (i + 1) 0 := ⟨h.perm, h.srt, h.ok, h.sup, h.gen, fun a b x y hab hc => h.cl a b x y hab (by omega)⟩
theorem SpJ.done {l r m : List Cd} {i k : Nat} (hl : l.all Cd.ok = true) (h : SpJ l r m i k) (hi : r.length ≤ i) : m = span l := by
  refine span_is hl h.srt h.sup h.gen ?_
  intro x hx y hy
  exact h.perm.mem_iff.1 (closed_of hi h.rok (fun a b x y hab ha hx hy => h.perm.mem_iff.2 (h.cl a b x y hab (.inl ha) hx hy)) x (h.perm.mem_iff.2 hx) y (h.perm.mem_iff.2 hy))
theorem sorted_nodup {m : List Cd} (h : sorted m) : m.Nodup := List.Pairwise.imp (fun {a b} hab e => by rw [e] at hab; omega) h
theorem SpJ.nodup {l r m : List Cd} {i k : Nat} (h : SpJ l r m i k) : r.Nodup := h.perm.nodup_iff.2 (sorted_nodup h.srt)
/-- Sorted at last, it is the span. -/
theorem SpJ.put {l r m : List Cd} {i k : Nat} (hl : l.all Cd.ok = true) (h : SpJ l r m i k) (hi : r.length ≤ i) : allPut r = span l := by
  rw [← h.done hl hi]
  have ha := allPut_is h.rok
  exact sorted_ext ha.1 h.srt fun x => (ha.2.2 x).trans h.perm.mem_iff
end Go.Proofs.Ytdhcdogmbclhaaa.planes
