/- Lines of a hand and pickings of them: the mathematics alone. -/
import Derived.Test.YtnibkipepmakgaaLs
namespace Go.Proofs.Ytnibkipepmakgaa.parting
open Go.RowKit
open cards
set_option linter.unusedVariables false

def same3 (x y : A3) : Bool := decide (x.a = y.a ∧ x.b = y.b ∧ x.c = y.c)
theorem same3_iff {x y : A3} : same3 x y = true ↔ x = y := by
  obtain ⟨a, b, c⟩ := x
  obtain ⟨e, f, g⟩ := y
  simp [same3]
/-- Is a place in a line? -/
def inL (x : A3) (i : Int) : Bool := decide (x.a = i ∨ x.b = i ∨ x.c = i)
/-- Have two lines a place in common? -/
def meet (x y : A3) : Bool := inL x y.a || inL x y.b || inL x y.c
def cov (ls : List A3) (i : Int) : Bool := ls.any (fun x => inL x i)
def free (ls : List A3) (x : A3) : Bool := ls.all (fun y => !meet y x)
theorem free_cov (ls : List A3) (x : A3) : free ls x = !(cov ls x.a || cov ls x.b || cov ls x.c) := by
  rw [Bool.eq_iff_iff]
  simp only [free, cov, meet, List.all_eq_true, Bool.not_eq_true', Bool.or_eq_false_iff, List.any_eq_false]
  constructor
  · intro h
    exact ⟨⟨fun y hy => by rw [((h y hy).1).1]; simp, fun y hy => by rw [((h y hy).1).2]; simp⟩, fun y hy => by rw [(h y hy).2]; simp⟩
  · rintro ⟨⟨h1, h2⟩, h3⟩ y hy
    exact ⟨⟨by simpa using h1 y hy, by simpa using h2 y hy⟩, by simpa using h3 y hy⟩
def gfP (b q : List A3) : List A3 := if b.length < q.length then q else b
theorem gfP_assoc (a b c : List A3) : gfP (gfP a b) c = gfP a (gfP b c) := by
  unfold gfP
  repeat' split
  all_goals first | rfl | omega
theorem foldl_gfP : ∀ (t : List (List A3)) (b q : List A3), t.foldl gfP (gfP b q) = gfP b (t.foldl gfP q)
  | [], b, q => rfl
  | x :: t, b, q => by
    simp only [List.foldl_cons]
    rw [gfP_assoc, foldl_gfP t]
/-- All pickings that are longer, made of one by the next lines, in order. -/
def tls : List A3 → List A3 → List (List A3)
  | [], _ => []
  | x :: r, ps => (if free ps x = true then (ps ++ [x]) :: tls r (ps ++ [x]) else []) ++ tls r ps
/-- The model's search. -/
def bs : List A3 → List A3 → List A3 → List A3
  | [], _, b => b
  | x :: r, ps, b => bs r ps (if free ps x = true then gfP b (bs r (ps ++ [x]) (ps ++ [x])) else b)
theorem bs_all : ∀ (r ps b : List A3), bs r ps b = (tls r ps).foldl gfP b
  | [], ps, b => rfl
  | x :: r, ps, b => by
    rw [bs, tls, bs_all r ps, List.foldl_append]
    congr 1
    split
    · rw [bs_all r (ps ++ [x]), List.foldl_cons, foldl_gfP]
    · rfl
theorem tls_len : ∀ (r ps : List A3) (q : List A3), q ∈ tls r ps → ps.length < q.length ∧ q.length ≤ ps.length + r.length
  | [], ps, q, h => by simp [tls] at h
  | x :: r, ps, q, h => by
    rw [tls, List.mem_append] at h
    rcases h with h | h
    · split at h
      · rcases List.mem_cons.1 h with rfl | h
        · simp
        · have := tls_len r (ps ++ [x]) q h
          simp at this ⊢; omega
      · simp at h
    · have := tls_len r ps q h
      simp at this ⊢; omega
theorem bs_len (r ps b : List A3) (N : Nat) (hb : b.length ≤ N) (hp : ps.length + r.length ≤ N) : (bs r ps b).length ≤ N := by
  rw [bs_all]
  have : ∀ (t : List (List A3)) (b : List A3), b.length ≤ N → (∀ q ∈ t, q.length ≤ N) → (t.foldl gfP b).length ≤ N := by
    intro t
    induction t with
    | nil => intro b h _; exact h
    | cons q t ih =>
      intro b h hq
      refine ih _ ?_ (fun z hz => hq z (by simp [hz]))
      unfold gfP
      split
      · exact hq q (by simp)
      · exact h
  exact this _ _ hb (fun q hq => by have := tls_len r ps q hq; omega)
/-- The first greatest picking. -/
def bestP (al : List A3) : List A3 := bs al [] []
theorem bestP_vis (al : List A3) : bestP al = ([] :: tls al []).foldl gfP [] := by
  unfold bestP; rw [bs_all]; rfl
/-- How many pickings have n lines more: the model's count. -/
def ct : List A3 → List A3 → Nat → Nat
  | [], _, _ => 0
  | x :: r, ps, n => (if free ps x = true then (if n = 1 then 1 else ct r (ps ++ [x]) (n - 1)) else 0) + ct r ps n
def ct0 (r ps : List A3) (n : Nat) : Nat := if n = 0 then 1 else ct r ps n
theorem ct_two : ∀ (r ps : List A3) (n : Nat), ct r ps n + 1 ≤ 2 ^ r.length
  | [], ps, n => by simp [ct]
  | x :: r, ps, n => by
    have h1 := ct_two r ps n
    have h2 := ct_two r (ps ++ [x]) (n - 1)
    rw [ct, List.length_cons, Nat.pow_succ]
    split <;> (try split) <;> omega
theorem tls_two : ∀ (r ps : List A3), (tls r ps).length + 1 ≤ 2 ^ r.length
  | [], ps => by simp [tls]
  | x :: r, ps => by
    have h1 := tls_two r ps
    have h2 := tls_two r (ps ++ [x])
    rw [tls, List.length_cons, Nat.pow_succ, List.length_append]
    split <;> simp <;> omega
theorem ct_tls : ∀ (r ps : List A3) (n : Nat), 1 ≤ n → (tls r ps).countP (fun q => decide (q.length = ps.length + n)) = ct r ps n
  | [], ps, n, h => by simp [tls, ct]
  | x :: r, ps, n, h => by
    rw [tls, ct, List.countP_append, ct_tls r ps n h]
    congr 1
    split
    · rw [List.countP_cons]
      by_cases h1 : n = 1
      · subst h1
        rw [if_pos rfl, if_pos (by simp)]
        have : (tls r (ps ++ [x])).countP (fun q => decide (q.length = ps.length + 1)) = 0 := by
          rw [List.countP_eq_zero]
          intro q hq
          have := (tls_len r (ps ++ [x]) q hq).1
          simp at this ⊢; omega
        omega
      · rw [if_neg h1, if_neg (by simp; omega), ← ct_tls r (ps ++ [x]) (n - 1) (by omega)]
        rw [Nat.add_zero]
        congr 1
        funext q
        simp; omega
    · rfl
/-- All pickings with N lines, counted as they are visited. -/
theorem ct0_vis (al : List A3) (N : Nat) : ([] :: tls al []).countP (fun q => decide (q.length = N)) = ct0 al [] N := by
  unfold ct0
  rw [List.countP_cons]
  by_cases h : N = 0
  · subst h
    rw [if_pos rfl]
    have : (tls al []).countP (fun q => decide (q.length = 0)) = 0 := by
      rw [List.countP_eq_zero]
      intro q hq
      have := (tls_len al [] q hq).1
      simp at this ⊢; intro e; rw [e] at this; simp at this
    rw [this]; simp
  · rw [if_neg h, ← ct_tls al [] N (by omega)]
    simp; omega
/-- Lines compared. -/
def befL (x y : A3) : Bool := decide (x.a < y.a ∨ x.a = y.a ∧ (x.b < y.b ∨ x.b = y.b ∧ x.c < y.c))
theorem befL_irr (x : A3) : befL x x = false := by unfold befL; exact decide_eq_false (by omega)
theorem befL_trans {x y z : A3} (h : befL x y = true) (k : befL y z = true) : befL x z = true := by
  unfold befL at *
  have h := of_decide_eq_true h
  have k := of_decide_eq_true k
  exact decide_eq_true (by omega)
/-- The program's search for the lines of a list among all lines, in order. -/
def am : List A3 → List A3 → List A3 → List A3
  | _, [], _ => []
  | [], x :: r, _ => x :: r
  | y :: al, x :: r, done => if same3 y x = true ∧ free done x = true then am al r (done ++ [x]) else am al (x :: r) done
def good : List A3 → List A3 → Bool
  | _, [] => true
  | done, x :: r => free done x && good (done ++ [x]) r
theorem am_iff : ∀ (al ls done : List A3), am al ls done = [] ↔ good done ls = true ∧ ls.Sublist al
  | al, [], done => by simp [am, good]
  | [], x :: r, done => by simp [am]
  | y :: al, x :: r, done => by
    rw [am]
    by_cases h : same3 y x = true ∧ free done x = true
    · obtain ⟨e, hf⟩ := h
      rw [if_pos ⟨e, hf⟩, am_iff al r]
      obtain rfl := same3_iff.1 e
      simp [good, hf, List.cons_sublist_cons]
    · rw [if_neg h, am_iff al (x :: r)]
      by_cases e : y = x
      · have hf : free done x = false := by
          cases hf : free done x
          · rfl
          · exact (h ⟨same3_iff.2 e, hf⟩).elim
        simp [good, hf]
      · constructor
        · rintro ⟨h1, h2⟩; exact ⟨h1, h2.cons _⟩
        · rintro ⟨h1, h2⟩
          refine ⟨h1, ?_⟩
          cases h2 with
          | cons _ h => exact h
          | cons_cons _ h => exact (e rfl).elim
def ascL (ls : List A3) : Prop := ls.Pairwise (fun x y => befL x y = true)
theorem sub_asc : ∀ {al ls : List A3}, ascL al → (ls.Sublist al ↔ (∀ x ∈ ls, x ∈ al) ∧ ascL ls)
  | al, [], _ => by simp [ascL]
  | [], x :: r, _ => by
    constructor
    · intro h; cases h
    · rintro ⟨h, _⟩; have := h x (by simp); simp at this
  | y :: al, x :: r, ha => by
    constructor
    · intro h
      exact ⟨fun z hz => h.subset hz, List.Pairwise.sublist h ha⟩
    · rintro ⟨h, hs⟩
      have ha' := (List.pairwise_cons.1 ha).2
      have hya := (List.pairwise_cons.1 ha).1
      have hs' := (List.pairwise_cons.1 hs).2
      have hxr := (List.pairwise_cons.1 hs).1
      rcases List.mem_cons.1 (h x (by simp)) with rfl | hx
      · refine List.Sublist.cons_cons _ ((sub_asc ha').2 ⟨fun z hz => ?_, hs'⟩)
        rcases List.mem_cons.1 (h z (by simp [hz])) with rfl | hz'
        · have := hxr _ hz; rw [befL_irr] at this; cases this
        · exact hz'
      · refine List.Sublist.cons _ ((sub_asc ha').2 ⟨fun z hz => ?_, hs⟩)
        rcases List.mem_cons.1 (h z hz) with rfl | hz'
        · have h1 := hya x hx
          rcases List.mem_cons.1 hz with rfl | hz
          · exact hx
          · have h2 := hxr _ hz
            have := befL_trans h1 h2
            rw [befL_irr] at this; cases this
        · exact hz'
/-- One line of a list that is to be a picking, as the model looks at it. -/
def stepOk (al ls : List A3) (k : Nat) : Prop := ∃ x, ls[k]? = some x ∧ x ∈ al ∧ free (ls.take k) x = true ∧ ∀ y, 0 < k → ls[k - 1]? = some y → befL y x = true
noncomputable def pickB (al ls : List A3) : Bool := @decide (∀ k, k < ls.length → stepOk al ls k) (Classical.propDecidable _)
theorem pickB_true {al ls : List A3} : pickB al ls = true ↔ ∀ k, k < ls.length → stepOk al ls k := by simp [pickB]
theorem good_iff : ∀ (ls done : List A3), good done ls = true ↔ ∀ k x, ls[k]? = some x → free (done ++ ls.take k) x = true
  | [], done => by simp [good]
  | x :: r, done => by
    rw [good, Bool.and_eq_true, good_iff r]
    constructor
    · rintro ⟨h1, h2⟩ k z hz
      cases k with
      | zero => obtain rfl : x = z := by simpa using hz
                simpa using h1
      | succ k => have := h2 k z (by simpa using hz)
                  simpa [List.append_assoc] using this
    · intro h
      refine ⟨by simpa using h 0 x rfl, fun k z hz => ?_⟩
      have := h (k + 1) z (by simpa using hz)
      simpa [List.append_assoc] using this
theorem asc_of : ∀ {ls : List A3}, (∀ k x y, ls[k]? = some x → ls[k + 1]? = some y → befL x y = true) → ascL ls
  | [], _ => List.Pairwise.nil
  | [x], _ => by simp [ascL]
  | x :: y :: r, h => by
    have ih : ascL (y :: r) := asc_of (fun k a b ha hb => h (k + 1) a b (by simpa using ha) (by simpa using hb))
    refine List.Pairwise.cons (fun z hz => ?_) ih
    have hxy := h 0 x y rfl rfl
    rcases List.mem_cons.1 hz with rfl | hz
    · exact hxy
    · exact befL_trans hxy ((List.pairwise_cons.1 ih).1 z hz)
theorem pick_am {al ls : List A3} (ha : ascL al) : pickB al ls = (am al ls []).isEmpty := by
  rw [Bool.eq_iff_iff, List.isEmpty_iff, am_iff, sub_asc ha, good_iff, pickB_true]
  constructor
  · intro h
    refine ⟨fun k x hx => ?_, fun x hx => ?_, asc_of (fun k x y hx hy => ?_)⟩
    · obtain ⟨x', hx', _, h2, _⟩ := h k (List.getElem?_eq_some_iff.1 hx).1
      rw [hx] at hx'; injection hx' with e; subst e
      simpa using h2
    · obtain ⟨k, hk⟩ := List.mem_iff_getElem?.1 hx
      obtain ⟨x', hx', h1, _⟩ := h k (List.getElem?_eq_some_iff.1 hk).1
      rw [hk] at hx'; injection hx' with e; subst e
      exact h1
    · obtain ⟨y', hy', _, _, h3⟩ := h (k + 1) (List.getElem?_eq_some_iff.1 hy).1
      rw [hy] at hy'; injection hy' with e; subst e
      exact h3 x (by omega) (by simpa using hx)
  · rintro ⟨h1, h2, h3⟩ k hk
    refine ⟨ls[k], List.getElem?_eq_getElem hk, h2 _ (List.getElem_mem hk), by simpa using h1 k _ (List.getElem?_eq_getElem hk), fun y h0 hy => ?_⟩
    obtain ⟨hk', rfl⟩ := List.getElem?_eq_some_iff.1 hy
    exact List.pairwise_iff_getElem.1 h3 (k - 1) k hk' hk (by omega)
theorem pick_bad {al ls : List A3} {k : Nat} (hk : k < ls.length) (h : ¬ stepOk al ls k) : pickB al ls = false := by
  cases e : pickB al ls
  · rfl
  · exact (h (pickB_true.1 e k hk)).elim
theorem pick_good {al ls : List A3} (h : ∀ k, k < ls.length → stepOk al ls k) : pickB al ls = true := by
  exact pickB_true.2 h
theorem third_third {x y : Cd} (hx : x.ok = true) : third (third x y) y = x := by
  obtain ⟨⟨x1, x2⟩, ⟨x3, x4⟩, ⟨x5, x6⟩, x7, x8⟩ := Cd.bd hx
  obtain ⟨a, b, c, d⟩ := x
  simp only [third, Cd.mk.injEq]
  simp only at x1 x2 x3 x4 x5 x6 x7 x8
  refine ⟨?_, ?_, ?_, ?_⟩ <;> omega
theorem third_sym (x y : Cd) : third x y = third y x := by
  simp only [third, Cd.mk.injEq]
  refine ⟨?_, ?_, ?_, ?_⟩ <;> omega
/-- The cards at two places have theirs at a third one as third card. -/
def Tr (l : List Cd) (i j q : Nat) : Prop := ∃ u v z, l[i]? = some u ∧ l[j]? = some v ∧ l[q]? = some z ∧ z = third u v
theorem Tr.swap {l : List Cd} {i j q : Nat} : Tr l i j q → Tr l j i q := by
  rintro ⟨u, v, z, h1, h2, h3, h4⟩
  exact ⟨v, u, z, h2, h1, h3, by rw [h4, third_sym]⟩
theorem Tr.rot {l : List Cd} (hok : l.all Cd.ok = true) {i j q : Nat} : Tr l i j q → Tr l i q j := by
  rintro ⟨u, v, z, h1, h2, h3, h4⟩
  refine ⟨u, z, v, h1, h3, h2, ?_⟩
  have := third_third (y := u) (ok_at hok h2)
  rw [h4, third_sym u (third u v), third_sym u v, this]
theorem at_inj {l : List Cd} (hs : sorted l) {i j : Nat} {x : Cd} (h1 : l[i]? = some x) (h2 : l[j]? = some x) : i = j := by
  rcases Nat.lt_trichotomy i j with h | h | h
  · have := sorted_lt hs h h1 h2; omega
  · exact h
  · have := sorted_lt hs h h2 h1; omega
theorem Tr.uniq {l : List Cd} (hs : sorted l) {i j q q' : Nat} : Tr l i j q → Tr l i j q' → q = q' := by
  rintro ⟨u, v, z, h1, h2, h3, h4⟩ ⟨u', v', z', k1, k2, k3, k4⟩
  rw [h1] at k1; injection k1 with e1
  rw [h2] at k2; injection k2 with e2
  subst e1; subst e2
  rw [h4] at h3; rw [k4] at k3
  exact at_inj hs h3 k3
theorem mem_item {l : List Cd} (hs : sorted l) (hok : l.all Cd.ok = true) {i j : Nat} {x : A3} : x ∈ item l i j ↔ ∃ q : Nat, j < q ∧ Tr l i j q ∧ x = ⟨(i : Int), (j : Int), (q : Int)⟩ := by
  unfold item
  constructor
  · intro h
    split at h
    · rename_i u v h1 h2
      split at h
      · rename_i hc
        obtain ⟨ht, hj⟩ := hc
        refine ⟨less l (third u v), hj, ⟨u, v, third u v, h1, h2, ?_, rfl⟩, by simpa using h⟩
        have hlt := there_lt ht
        have hy := List.getElem?_eq_getElem hlt
        have := (place_is (t := third u v) hs hy).2 ⟨ht, rfl⟩
        rw [hy, num_inj (ok_at hok hy) (third_ok _ _) this]
      · simp at h
    · simp at h
  · rintro ⟨q, hq, ⟨u, v, z, h1, h2, h3, h4⟩, rfl⟩
    rw [h1, h2]
    simp only
    obtain ⟨h5, h6⟩ := (place_is (t := third u v) hs h3).1 (by rw [h4])
    rw [if_pos ⟨h5, by omega⟩, h6]
    simp
theorem mem_rowL {l : List Cd} {i : Nat} {x : A3} : ∀ {j : Nat}, x ∈ rowL l i j ↔ ∃ k, i < k ∧ k < j ∧ x ∈ item l i k
  | 0 => by simp [rowL]
  | j + 1 => by
    rw [rowL, List.mem_append, mem_rowL]
    constructor
    · rintro (⟨k, h1, h2, h3⟩ | h)
      · exact ⟨k, h1, by omega, h3⟩
      · split at h
        · exact ⟨j, by omega, by omega, h⟩
        · simp at h
    · rintro ⟨k, h1, h2, h3⟩
      rcases Nat.lt_or_ge k j with h | h
      · exact .inl ⟨k, h1, h, h3⟩
      · obtain rfl : k = j := by omega
        right; rw [if_pos h1]; exact h3
theorem mem_allL {l : List Cd} {x : A3} : ∀ {i : Nat}, x ∈ allL l i ↔ ∃ k j, k < i ∧ k < j ∧ j < l.length ∧ x ∈ item l k j
  | 0 => by simp [allL]
  | i + 1 => by
    rw [allL, List.mem_append, mem_allL, mem_rowL]
    constructor
    · rintro (⟨k, j, h1, h2, h3, h4⟩ | ⟨j, h1, h2, h3⟩)
      · exact ⟨k, j, by omega, h2, h3, h4⟩
      · exact ⟨i, j, by omega, h1, h2, h3⟩
    · rintro ⟨k, j, h1, h2, h3, h4⟩
      rcases Nat.lt_or_ge k i with h | h
      · exact .inl ⟨k, j, h, h2, h3, h4⟩
      · obtain rfl : k = i := by omega
        exact .inr ⟨j, h2, h3, h4⟩
/-- The lines of a hand. -/
theorem mem_lines {l : List Cd} {n : Nat} (hn : l.length = n) (hs : sorted l) (hok : l.all Cd.ok = true) {x : A3} :
    x ∈ allL l n ↔ ∃ i j q : Nat, i < j ∧ j < q ∧ q < n ∧ Tr l i j q ∧ x = ⟨(i : Int), (j : Int), (q : Int)⟩ := by
  rw [mem_allL]
  constructor
  · rintro ⟨i, j, h1, h2, h3, h4⟩
    obtain ⟨q, h5, h6, h7⟩ := (mem_item hs hok).1 h4
    have hq : q < l.length := by
      obtain ⟨_, _, _, _, _, h, _⟩ := h6
      exact (List.getElem?_eq_some_iff.1 h).1
    exact ⟨i, j, q, h2, h5, by omega, h6, h7⟩
  · rintro ⟨i, j, q, h1, h2, h3, h4, h5⟩
    exact ⟨i, j, by omega, h1, by omega, (mem_item hs hok).2 ⟨q, h2, h4, h5⟩⟩
theorem item_fst {l : List Cd} {i j : Nat} {x : A3} (h : x ∈ item l i j) : x.a = i ∧ x.b = j := by
  unfold item at h
  split at h
  · split at h
    · rw [List.mem_singleton] at h; subst h; exact ⟨rfl, rfl⟩
    · simp at h
  · simp at h
theorem item_one {l : List Cd} {i j : Nat} : ascL (item l i j) := by
  unfold item ascL
  split
  · split <;> simp
  · simp
theorem rowL_asc (l : List Cd) (i : Nat) : ∀ j : Nat, ascL (rowL l i j)
  | 0 => List.Pairwise.nil
  | j + 1 => by
    unfold ascL
    rw [rowL, List.pairwise_append]
    refine ⟨rowL_asc l i j, ?_, ?_⟩
    · split
      · exact item_one
      · exact List.Pairwise.nil
    · intro x hx y hy
      obtain ⟨k, h1, h2, h3⟩ := mem_rowL.1 hx
      split at hy
      · have e1 := item_fst h3
        have e2 := item_fst hy
        exact decide_eq_true (by omega)
      · simp at hy
theorem lines_asc (l : List Cd) : ∀ n : Nat, ascL (allL l n)
  | 0 => List.Pairwise.nil
  | n + 1 => by
    unfold ascL
    rw [allL, List.pairwise_append]
    refine ⟨lines_asc l n, rowL_asc l n _, ?_⟩
    intro x hx y hy
    obtain ⟨k, j, h1, h2, h3, h4⟩ := mem_allL.1 hx
    obtain ⟨j', h5, h6, h7⟩ := mem_rowL.1 hy
    have e1 := item_fst h4
    have e2 := item_fst h7
    exact decide_eq_true (by omega)
/-- The line of two of its places. -/
theorem line_of {l : List Cd} {n : Nat} (hn : l.length = n) (hs : sorted l) (hok : l.all Cd.ok = true) {x : A3} (hx : x ∈ allL l n) {i j : Nat} (hi : inL x i = true) (hj : inL x j = true) (hij : i ≠ j) :
    ∃ q : Nat, Tr l i j q ∧ (∀ m : Int, inL x m = true ↔ m = i ∨ m = j ∨ m = q) ∧ x.a < x.b ∧ x.b < x.c := by
  obtain ⟨a, b, c, h1, h2, h3, h4, rfl⟩ := (mem_lines hn hs hok).1 hx
  unfold inL at hi hj
  have hi := of_decide_eq_true hi
  have hj := of_decide_eq_true hj
  simp only at hi hj
  have t1 := h4
  have t2 := t1.swap
  have t3 := t1.rot hok
  have t4 := t3.swap
  have t5 := t2.rot hok
  have t6 := t5.swap
  have key : ∃ q : Nat, Tr l i j q ∧ ((i = a ∧ j = b ∧ q = c) ∨ (i = b ∧ j = a ∧ q = c) ∨ (i = a ∧ j = c ∧ q = b) ∨ (i = c ∧ j = a ∧ q = b) ∨ (i = b ∧ j = c ∧ q = a) ∨ (i = c ∧ j = b ∧ q = a)) := by
    rcases hi with hi | hi | hi <;> rcases hj with hj | hj | hj
    · omega
    · obtain rfl : a = i := by omega
      obtain rfl : b = j := by omega
      exact ⟨c, t1, by simp⟩
    · obtain rfl : a = i := by omega
      obtain rfl : c = j := by omega
      exact ⟨b, t3, by simp⟩
    · obtain rfl : b = i := by omega
      obtain rfl : a = j := by omega
      exact ⟨c, t2, by simp⟩
    · omega
    · obtain rfl : b = i := by omega
      obtain rfl : c = j := by omega
      exact ⟨a, t5, by simp⟩
    · obtain rfl : c = i := by omega
      obtain rfl : a = j := by omega
      exact ⟨b, t4, by simp⟩
    · obtain rfl : c = i := by omega
      obtain rfl : b = j := by omega
      exact ⟨a, t6, by simp⟩
    · omega
  obtain ⟨q, ht, hq⟩ := key
  refine ⟨q, ht, fun m => ?_, by simp only; omega, by simp only; omega⟩
  unfold inL
  rw [decide_eq_true_eq]
  simp only
  omega
theorem two_lines {l : List Cd} {n : Nat} (hn : l.length = n) (hs : sorted l) (hok : l.all Cd.ok = true) {x y : A3} (hx : x ∈ allL l n) (hy : y ∈ allL l n) {i j : Nat} (hij : i ≠ j)
    (h1 : inL x i = true) (h2 : inL x j = true) (h3 : inL y i = true) (h4 : inL y j = true) : x = y := by
  obtain ⟨q, t1, e1, f1, f2⟩ := line_of hn hs hok hx h1 h2 hij
  obtain ⟨q', t2, e2, g1, g2⟩ := line_of hn hs hok hy h3 h4 hij
  obtain rfl := t1.uniq hs t2
  have k : ∀ m : Int, inL x m = true ↔ inL y m = true := fun m => (e1 m).trans (e2 m).symm
  obtain ⟨xa, xb, xc⟩ := x
  obtain ⟨ya, yb, yc⟩ := y
  have k1 := (k xa).1 (by simp [inL])
  have k2 := (k xb).1 (by simp [inL])
  have k3 := (k xc).1 (by simp [inL])
  have k4 := (k ya).2 (by simp [inL])
  have k5 := (k yb).2 (by simp [inL])
  have k6 := (k yc).2 (by simp [inL])
  simp only [inL, decide_eq_true_eq] at k1 k2 k3 k4 k5 k6 f1 f2 g1 g2
  have : xa = ya ∧ xb = yb ∧ xc = yc := by omega
  obtain ⟨rfl, rfl, rfl⟩ := this
  rfl
/-- Has the third card of two places its place in the hand? -/
def hasT (l : List Cd) (i k : Nat) : Bool := match l[i]?, l[k]? with
  | some x, some y => there l (third x y)
  | _, _ => false
theorem hasT_iff {l : List Cd} (hs : sorted l) (hok : l.all Cd.ok = true) {i k : Nat} : hasT l i k = true ↔ ∃ q, Tr l i k q := by
  unfold hasT
  constructor
  · intro h
    split at h
    · rename_i u v h1 h2
      have hlt := there_lt h
      have hy := List.getElem?_eq_getElem hlt
      have := (place_is (t := third u v) hs hy).2 ⟨h, rfl⟩
      exact ⟨_, u, v, third u v, h1, h2, by rw [hy, num_inj (ok_at hok hy) (third_ok _ _) this], rfl⟩
    · cases h
  · rintro ⟨q, u, v, z, h1, h2, h3, h4⟩
    rw [h1, h2]
    exact ((place_is (t := third u v) hs h3).1 (by rw [h4])).1
/-- All pairs of places, the greater one first. -/
def prsP (n : Nat) : List (Int × Int) := (List.range n).flatMap fun i => (List.range i).map fun k : Nat => ((i : Int), (k : Int))
theorem mem_prsP {n : Nat} {u : Int × Int} : u ∈ prsP n ↔ ∃ i k : Nat, i < n ∧ k < i ∧ u = ((i : Int), (k : Int)) := by
  unfold prsP
  simp only [List.mem_flatMap, List.mem_range, List.mem_map]
  constructor
  · rintro ⟨i, hi, k, hk, rfl⟩; exact ⟨i, k, hi, hk, rfl⟩
  · rintro ⟨i, k, hi, hk, rfl⟩; exact ⟨i, hi, k, hk, rfl⟩
theorem prsP_nodup (n : Nat) : (prsP n).Nodup := by
  unfold prsP List.Nodup
  rw [List.pairwise_flatMap]
  constructor
  · intro i _
    rw [List.pairwise_map]
    refine (List.nodup_range (n := i)).imp ?_
    intro a b h e
    injection e with _ e
    omega
  · refine (List.nodup_range (n := n)).imp ?_
    intro a b h x hx y hy e
    obtain ⟨_, _, rfl⟩ := List.mem_map.1 hx
    obtain ⟨_, _, rfl⟩ := List.mem_map.1 hy
    injection e with e _
    omega
def hasU (l : List Cd) (u : Int × Int) : Bool := hasT l u.1.toNat u.2.toNat
theorem three_lines {l : List Cd} {n : Nat} (hn : l.length = n) (hs : sorted l) (hok : l.all Cd.ok = true) :
    ((prsP n).filter (hasU l)).length = 3 * (allL l n).length := by
  have hperm : ((prsP n).filter (hasU l)).Perm ((allL l n).flatMap fun x => [(x.b, x.a), (x.c, x.a), (x.c, x.b)]) := by
    refine (List.perm_ext_iff_of_nodup ((prsP_nodup n).sublist List.filter_sublist) ?_).2 ?_
    · unfold List.Nodup
      rw [List.pairwise_flatMap]
      constructor
      · intro x hx
        obtain ⟨a, b, c, h1, h2, h3, h4, rfl⟩ := (mem_lines hn hs hok).1 hx
        simp
        omega
      · refine (lines_asc l n).imp_of_mem ?_
        intro x y hx hy hb u hu v hv e
        subst e
        have hne : x ≠ y := by
          rintro rfl
          unfold befL at hb
          have := of_decide_eq_true hb
          omega
        obtain ⟨a, b, c, h1, h2, h3, h4, rfl⟩ := (mem_lines hn hs hok).1 hx
        obtain ⟨a', b', c', k1, k2, k3, k4, rfl⟩ := (mem_lines hn hs hok).1 hy
        have two : ∃ i j : Nat, i ≠ j ∧ u = ((i : Int), (j : Int)) ∧ inL ⟨(a : Int), (b : Int), (c : Int)⟩ (i : Int) = true ∧ inL ⟨(a : Int), (b : Int), (c : Int)⟩ (j : Int) = true := by
          simp only [List.mem_cons, List.not_mem_nil, or_false] at hu
          rcases hu with rfl | rfl | rfl
          · exact ⟨b, a, by omega, rfl, by simp [inL], by simp [inL]⟩
          · exact ⟨c, a, by omega, rfl, by simp [inL], by simp [inL]⟩
          · exact ⟨c, b, by omega, rfl, by simp [inL], by simp [inL]⟩
        obtain ⟨i, j, hij, rfl, g1, g2⟩ := two
        have g3 : inL ⟨(a' : Int), (b' : Int), (c' : Int)⟩ (i : Int) = true ∧ inL ⟨(a' : Int), (b' : Int), (c' : Int)⟩ (j : Int) = true := by
          simp only [List.mem_cons, List.not_mem_nil, or_false, Prod.mk.injEq] at hv
          rcases hv with ⟨e1, e2⟩ | ⟨e1, e2⟩ | ⟨e1, e2⟩ <;> (rw [e1, e2]; simp [inL])
        exact hne (two_lines hn hs hok hx hy hij g1 g2 g3.1 g3.2)
    · intro u
      rw [List.mem_filter, mem_prsP, List.mem_flatMap]
      constructor
      · rintro ⟨⟨i, k, hi, hk, rfl⟩, h⟩
        obtain ⟨q, hq⟩ := (hasT_iff hs hok).1 (show hasT l i k = true from h)
        have hqn : q < n := by
          obtain ⟨_, _, _, _, _, h, _⟩ := hq
          have := (List.getElem?_eq_some_iff.1 h).1; omega
        have hqi : q ≠ i := by
          rintro rfl
          have t := hq.rot hok
          obtain ⟨u, v, z, g1, g2, g3, g4⟩ := t
          rw [g1] at g2; injection g2 with g2; subst g2
          have := third_third (y := u) (ok_at hok g1)
          -- z = third u u
          obtain ⟨u', v', z', f1, f2, f3, f4⟩ := hq
          rw [g1] at f1; injection f1 with f1; subst f1
          rw [g1] at f3; injection f3 with f3; subst f3
          rw [g3] at f2; injection f2 with f2; subst f2
          have huz : third u u = u := by
            have hb := ok_at hok g1
            unfold Cd.ok at hb
            have hb := of_decide_eq_true hb
            obtain ⟨ua, ub, uc, ud⟩ := u
            simp only [third, Cd.mk.injEq]
            simp only at hb
            omega
          rw [huz] at g4
          rw [g4] at g3
          have := at_inj hs g3 g1
          omega
        have hqk : q ≠ k := by
          rintro rfl
          obtain ⟨u, v, z, g1, g2, g3, g4⟩ := hq
          rw [g2] at g3; injection g3 with g3; subst g3
          have e := third_third (y := u) (ok_at hok g2)
          have h2 : third v u = v := by rw [third_sym]; exact g4.symm
          rw [h2] at e
          have h3 := third_third (y := v) (ok_at hok g1)
          have h4 : third u v = v := g4.symm
          rw [h4] at h3
          have huz : third v v = v := by
            have hb := ok_at hok g2
            unfold Cd.ok at hb
            have hb := of_decide_eq_true hb
            obtain ⟨ua, ub, uc, ud⟩ := v
            simp only [third, Cd.mk.injEq]
            simp only at hb
            omega
          rw [huz] at h3
          subst h3
          have := at_inj hs g1 g2
          omega
        have t1 := hq
        have t2 := t1.swap
        have t3 := t1.rot hok
        have t4 := t3.swap
        have t5 := t2.rot hok
        have t6 := t5.swap
        rcases Nat.lt_trichotomy q k with h1 | h1 | h1
        · exact ⟨⟨(q : Int), (k : Int), (i : Int)⟩, (mem_lines hn hs hok).2 ⟨q, k, i, h1, hk, hi, by first | exact t1 | exact t2 | exact t3 | exact t4 | exact t5 | exact t6, rfl⟩, by simp⟩
        · omega
        · rcases Nat.lt_trichotomy q i with h2 | h2 | h2
          · exact ⟨⟨(k : Int), (q : Int), (i : Int)⟩, (mem_lines hn hs hok).2 ⟨k, q, i, h1, h2, hi, by first | exact t1 | exact t2 | exact t3 | exact t4 | exact t5 | exact t6, rfl⟩, by simp⟩
          · omega
          · exact ⟨⟨(k : Int), (i : Int), (q : Int)⟩, (mem_lines hn hs hok).2 ⟨k, i, q, hk, h2, hqn, by first | exact t1 | exact t2 | exact t3 | exact t4 | exact t5 | exact t6, rfl⟩, by simp⟩
      · rintro ⟨x, hx, hu⟩
        obtain ⟨a, b, c, h1, h2, h3, h4, rfl⟩ := (mem_lines hn hs hok).1 hx
        have t1 := h4
        have t2 := t1.swap
        have t3 := t1.rot hok
        have t4 := t3.swap
        have t5 := t2.rot hok
        have t6 := t5.swap
        simp only [List.mem_cons, List.not_mem_nil, or_false] at hu
        rcases hu with rfl | rfl | rfl
        · exact ⟨⟨b, a, by omega, h1, rfl⟩, (hasT_iff hs hok).2 ⟨c, t2⟩⟩
        · exact ⟨⟨c, a, h3, by omega, rfl⟩, (hasT_iff hs hok).2 ⟨b, t4⟩⟩
        · exact ⟨⟨c, b, h3, h2, rfl⟩, (hasT_iff hs hok).2 ⟨a, t6⟩⟩
  rw [hperm.length_eq]
  generalize allL l n = ls
  induction ls with
  | nil => rfl
  | cons x r ih => rw [List.flatMap_cons, List.length_append, ih]; simp; omega
theorem prsP_len (n : Nat) : 2 * (prsP n).length = n * (n - 1) := by
  induction n with
  | zero => rfl
  | succ n ih =>
    unfold prsP at ih ⊢
    rw [List.range_succ, List.flatMap_append, List.length_append, Nat.mul_add, ih]
    simp
    cases n with
    | zero => rfl
    | succ m => simp [Nat.mul_add, Nat.add_mul]; omega
/-- Pairs without third card: row by row, as the model counts them. -/
def opR (l : List Cd) (i : Nat) : Nat → Nat
  | 0 => 0
  | k + 1 => opR l i k + (if hasT l i k = true then 0 else 1)
def opA (l : List Cd) : Nat → Nat
  | 0 => 0
  | i + 1 => opA l i + opR l i i
theorem opR_is (l : List Cd) (i : Nat) : ∀ k : Nat, opR l i k = (((List.range k).map fun k : Nat => ((i : Int), (k : Int))).filter (fun u => !hasU l u)).length
  | 0 => rfl
  | k + 1 => by
    rw [opR, opR_is l i k, List.range_succ, List.map_append, List.filter_append, List.length_append]
    congr 1
    have : hasU l ((i : Int), (k : Int)) = hasT l i k := rfl
    cases h : hasT l i k <;> simp [this, h]
theorem opA_is (l : List Cd) : ∀ n : Nat, opA l n = ((prsP n).filter (fun u => !hasU l u)).length
  | 0 => rfl
  | n + 1 => by
    rw [opA, opA_is l n, opR_is]
    unfold prsP
    rw [List.range_succ, List.flatMap_append, List.filter_append, List.length_append]
    simp
theorem filt_len {α : Type} (p : α → Bool) : ∀ l : List α, (l.filter p).length + (l.filter (fun x => !p x)).length = l.length
  | [] => rfl
  | x :: r => by
    have := filt_len p r
    cases h : p x <;> simp [h] <;> omega
/-- The pairs that are open, and the lines. -/
theorem open_lines {l : List Cd} {n : Nat} (hn : l.length = n) (hs : sorted l) (hok : l.all Cd.ok = true) : 2 * opA l n + 6 * (allL l n).length = n * (n - 1) := by
  have h1 := three_lines hn hs hok
  have h2 := filt_len (hasU l) (prsP n)
  have h3 := prsP_len n
  rw [opA_is]
  omega

/-- How many lines of a list have a place. -/
def cnt (ls : List A3) (p : Int) : Nat := ls.countP (fun x => inL x p)
def C2 (m : Nat) : Nat := m * (m - 1) / 2
theorem C2_step (m : Nat) : C2 (m + 1) = C2 m + m := by
  unfold C2
  cases m with
  | zero => rfl
  | succ k =>
    have e : (k + 1 + 1) * (k + 1 + 1 - 1) = (k + 1) * (k + 1 - 1) + (k + 1) * 2 := by
      simp [Nat.mul_add, Nat.add_mul]; omega
    rw [e, Nat.add_mul_div_right _ _ (by omega)]
def bit (b : Bool) : Nat := if b then 1 else 0
/-- How many places two lines have in common: the model's count. -/
def com (x y : A3) : Nat :=
  bit (decide (x.a = y.a)) + bit (decide (x.a = y.b)) + bit (decide (x.a = y.c)) + (bit (decide (x.b = y.a)) + bit (decide (x.b = y.b)) + bit (decide (x.b = y.c))) + (bit (decide (x.c = y.a)) + bit (decide (x.c = y.b)) + bit (decide (x.c = y.c)))
theorem com_meet (x y : A3) : decide (0 < com x y) = meet x y := by
  rw [Bool.eq_iff_iff, decide_eq_true_eq]
  unfold com meet inL bit
  simp only [decide_eq_true_eq, Bool.or_eq_true]
  constructor
  · intro h
    refine Classical.byContradiction fun hn => ?_
    rw [if_neg (by omega), if_neg (by omega), if_neg (by omega), if_neg (by omega), if_neg (by omega), if_neg (by omega), if_neg (by omega), if_neg (by omega), if_neg (by omega)] at h
    omega
  · rintro ((h | h) | h) <;> rcases h with h | h | h <;> (simp only [if_pos h]; omega)
theorem com_three {x y : A3} (hy : y.a < y.b ∧ y.b < y.c) : com x y = bit (inL y x.a) + bit (inL y x.b) + bit (inL y x.c) := by
  unfold com inL bit
  simp only [decide_eq_true_eq]
  have key : ∀ v : Int, ((if v = y.a then 1 else 0) + (if v = y.b then 1 else 0) + (if v = y.c then 1 else 0) : Nat) = if y.a = v ∨ y.b = v ∨ y.c = v then 1 else 0 := by
    intro v
    by_cases h1 : v = y.a
    · rw [if_pos h1, if_neg (by omega), if_neg (by omega), if_pos (by omega)]
    · by_cases h2 : v = y.b
      · rw [if_neg h1, if_pos h2, if_neg (by omega), if_pos (by omega)]
      · by_cases h3 : v = y.c
        · rw [if_neg h1, if_neg h2, if_pos h3, if_pos (by omega)]
        · rw [if_neg h1, if_neg h2, if_neg h3, if_neg (by omega)]
  rw [key, key, key]
/-- A sum over all places below n. -/
def sm : Nat → (Nat → Nat) → Nat
  | 0, _ => 0
  | n + 1, f => sm n f + f n
theorem sm_add (f g : Nat → Nat) : ∀ n, sm n (fun p => f p + g p) = sm n f + sm n g
  | 0 => rfl
  | n + 1 => by simp only [sm]; rw [sm_add f g n]; omega
theorem sm_ext {f g : Nat → Nat} : ∀ {n}, (∀ p, p < n → f p = g p) → sm n f = sm n g
  | 0, _ => rfl
  | n + 1, h => by simp only [sm]; rw [sm_ext (fun p hp => h p (by omega)), h n (by omega)]
theorem sm_zero : ∀ n, sm n (fun _ => 0) = 0
  | 0 => rfl
  | n + 1 => by simp only [sm]; rw [sm_zero n]
theorem sm_one (g : Nat → Nat) (a : Nat) : ∀ n, sm n (fun p => if a = p then g p else 0) = if a < n then g a else 0
  | 0 => by simp [sm]
  | n + 1 => by
    simp only [sm]
    rw [sm_one g a n]
    rcases Nat.lt_trichotomy a n with h | h | h
    · rw [if_pos h, if_neg (by omega), if_pos (by omega)]; rfl
    · subst h; rw [if_neg (by omega), if_pos rfl, if_pos (by omega)]; omega
    · rw [if_neg (by omega), if_neg (by omega), if_neg (by omega)]
theorem sm_three (g : Nat → Nat) {n a b c : Nat} (h1 : a < b) (h2 : b < c) (h3 : c < n) : sm n (fun p => if inL ⟨(a : Int), (b : Int), (c : Int)⟩ (p : Int) = true then g p else 0) = g a + g b + g c := by
  have e : sm n (fun p => if inL ⟨(a : Int), (b : Int), (c : Int)⟩ (p : Int) = true then g p else 0) = sm n (fun p => ((if a = p then g p else 0) + (if b = p then g p else 0)) + (if c = p then g p else 0)) := by
    refine sm_ext fun p _ => ?_
    unfold inL
    simp only [decide_eq_true_eq]
    by_cases e1 : a = p
    · have n2 : ¬ b = p := by omega
      have n3 : ¬ c = p := by omega
      rw [if_pos e1, if_neg n2, if_neg n3, if_pos (by omega)]; omega
    · by_cases e2 : b = p
      · have n3 : ¬ c = p := by omega
        rw [if_neg e1, if_pos e2, if_neg n3, if_pos (by omega)]; omega
      · by_cases e3 : c = p
        · rw [if_neg e1, if_neg e2, if_pos e3, if_pos (by omega)]; omega
        · rw [if_neg e1, if_neg e2, if_neg e3, if_neg (by omega)]
  rw [e, sm_add, sm_add, sm_one, sm_one, sm_one, if_pos (by omega), if_pos (by omega), if_pos (by omega)]
/-- The pairs of lines that cross: as the model counts them. -/
def crR (ls : List A3) (x : A3) : Nat → Nat
  | 0 => 0
  | k + 1 => crR ls x k + (match ls[k]? with | some y => bit (decide (com x y = 1)) | none => 0)
def crA (ls : List A3) : Nat → Nat
  | 0 => 0
  | i + 1 => crA ls i + (match ls[i]? with | some x => crR ls x i | none => 0)
theorem cnt_snoc (ls : List A3) (x : A3) (p : Int) : cnt (ls ++ [x]) p = cnt ls p + bit (inL x p) := by
  unfold cnt bit
  rw [List.countP_append, List.countP_singleton]
theorem crR_is {ls : List A3} {x : A3} (h : ∀ y, y ∈ ls → (y.a < y.b ∧ y.b < y.c)) (hx : ∀ k y, ls[k]? = some y → k < ls.length → ∀ m, k < m → (ls[m]? = some x → com x y ≤ 1)) {m : Nat} (hm : ls[m]? = some x) :
    ∀ k, k ≤ m → crR ls x k = cnt (ls.take k) x.a + cnt (ls.take k) x.b + cnt (ls.take k) x.c
  | 0, _ => by simp [crR, cnt]
  | k + 1, hk => by
    have hml := (List.getElem?_eq_some_iff.1 hm).1
    have hkl : k < ls.length := by omega
    have hg := List.getElem?_eq_getElem hkl
    rw [crR, crR_is h hx hm k (by omega), List.take_add_one, hg]
    simp only [Option.toList_some]
    rw [cnt_snoc, cnt_snoc, cnt_snoc]
    have h1 := hx k _ hg hkl m (by omega) hm
    have h2 := com_three (x := x) (h _ (List.getElem_mem hkl))
    have h3 : bit (decide (com x ls[k] = 1)) = com x ls[k] := by
      unfold bit
      simp only [decide_eq_true_eq]
      split <;> omega
    rw [h3, h2]
    omega
theorem cross_sum {l : List Cd} {n : Nat} (hn : l.length = n) (hs : sorted l) (hok : l.all Cd.ok = true) :
    ∀ i, i ≤ (allL l n).length → sm n (fun p => C2 (cnt ((allL l n).take i) (p : Int))) = crA (allL l n) i
  | 0, _ => by
    have : (fun p : Nat => C2 (cnt ((allL l n).take 0) (p : Int))) = fun _ => 0 := by funext p; simp [cnt, C2]
    rw [this, sm_zero]; rfl
  | i + 1, hi => by
    have hg := List.getElem?_eq_getElem (show i < (allL l n).length by omega)
    obtain ⟨x, hx⟩ : ∃ x, (allL l n)[i] = x := ⟨_, rfl⟩
    rw [hx] at hg
    have hxm : x ∈ allL l n := List.mem_of_getElem? hg
    have ho : ∀ y, y ∈ allL l n → (y.a < y.b ∧ y.b < y.c) := fun y hy => by
      obtain ⟨a, b, c, h1, h2, h3, h4, rfl⟩ := (mem_lines hn hs hok).1 hy
      simp only; omega
    have hc : ∀ k y, (allL l n)[k]? = some y → k < (allL l n).length → ∀ m, k < m → ((allL l n)[m]? = some x → com x y ≤ 1) := by
      intro k y hy _ m hkm hm
      have hym : y ∈ allL l n := List.mem_of_getElem? hy
      have hb : befL y x = true := by
        obtain ⟨q1, e1⟩ := List.getElem?_eq_some_iff.1 hy
        obtain ⟨q2, e2⟩ := List.getElem?_eq_some_iff.1 hm
        have := List.pairwise_iff_getElem.1 (lines_asc l n) k m q1 q2 hkm
        rw [e1, e2] at this; exact this
      have hne : x ≠ y := by
        rintro rfl
        unfold befL at hb
        have := of_decide_eq_true hb
        omega
      rw [com_three (ho y hym)]
      obtain ⟨a, b, c, h1, h2, h3, h4, rfl⟩ := (mem_lines hn hs hok).1 hxm
      have T := fun (i j : Nat) (hij : i ≠ j) (g1 : inL ⟨(a : Int), (b : Int), (c : Int)⟩ (i : Int) = true) (g2 : inL ⟨(a : Int), (b : Int), (c : Int)⟩ (j : Int) = true) (g3 : inL y (i : Int) = true) (g4 : inL y (j : Int) = true) => hne (two_lines hn hs hok hxm hym hij g1 g2 g3 g4)
      have t1 := T a b (by omega) (by simp [inL]) (by simp [inL])
      have t2 := T a c (by omega) (by simp [inL]) (by simp [inL])
      have t3 := T b c (by omega) (by simp [inL]) (by simp [inL])
      simp only
      revert t1 t2 t3
      cases inL y (a : Int) <;> cases inL y (b : Int) <;> cases inL y (c : Int) <;> simp [bit]
    rw [crA, hg, List.take_add_one, hg]
    simp only [Option.toList_some]
    have e : (fun p : Nat => C2 (cnt ((allL l n).take i ++ [x]) (p : Int))) = fun p : Nat => C2 (cnt ((allL l n).take i) (p : Int)) + (if inL x (p : Int) = true then cnt ((allL l n).take i) (p : Int) else 0) := by
      funext p
      rw [cnt_snoc]
      unfold bit
      split
      · rw [C2_step]
      · rfl
    rw [e, sm_add, cross_sum hn hs hok i (by omega), crR_is ho hc hg i (Nat.le_refl _)]
    obtain ⟨a, b, c, h1, h2, h3, h4, rfl⟩ := (mem_lines hn hs hok).1 hxm
    rw [sm_three _ h1 h2 h3]
/-- The lines of each place: what is counted. -/
def cnts (ls : List A3) (n : Nat) : List Int := (List.range n).map fun p : Nat => ((cnt ls (p : Int) : Nat) : Int)
theorem cnts_len (ls : List A3) (n : Nat) : (cnts ls n).length = n := by simp [cnts]
theorem cnts_nil (n : Nat) : cnts [] n = List.replicate n 0 := by
  apply List.ext_getElem?
  intro j
  by_cases h : j < n
  · simp [cnts, cnt, h]
  · simp [cnts, h]
theorem cnts_at (ls : List A3) {n p : Nat} (h : p < n) : (cnts ls n)[p]? = some ((cnt ls (p : Int) : Nat) : Int) := by simp [cnts, h]
/-- A line more is counted at its three places. -/
def inc (l : List Int) (p : Nat) : List Int := l.set p (l.getD p 0 + 1)
theorem inc_len (l : List Int) (p : Nat) : (inc l p).length = l.length := by simp [inc]
theorem inc_at (l : List Int) (p j : Nat) : (inc l p)[j]? = if p = j then (l[j]?).map (· + 1) else l[j]? := by
  unfold inc
  rw [List.getElem?_set]
  split
  · rename_i h
    subst h
    by_cases hl : p < l.length
    · simp [hl]
    · simp [hl]
  · rfl
theorem cnts_more (ls : List A3) {n a b c : Nat} (h1 : a < b) (h2 : b < c) (h3 : c < n) : inc (inc (inc (cnts ls n) a) b) c = cnts (ls ++ [⟨(a : Int), (b : Int), (c : Int)⟩]) n := by
  apply List.ext_getElem?
  intro j
  rw [inc_at, inc_at, inc_at]
  by_cases hj : j < n
  · rw [cnts_at _ hj, cnts_at _ hj, cnt_snoc]
    unfold bit inL
    simp only [decide_eq_true_eq]
    by_cases e1 : a = j
    · rw [if_neg (by omega), if_neg (by omega), if_pos e1, if_pos (by omega)]; simp
    · by_cases e2 : b = j
      · rw [if_neg (by omega), if_pos e2, if_neg e1, if_pos (by omega)]; simp
      · by_cases e3 : c = j
        · rw [if_pos e3, if_neg e2, if_neg e1, if_pos (by omega)]; simp
        · rw [if_neg e3, if_neg e2, if_neg e1, if_neg (by omega)]; simp
  · have e : ∀ ls, (cnts ls n)[j]? = none := fun ls => by simp [cnts, hj]
    rw [e, e]; simp
theorem cnt_le (ls : List A3) (p : Int) : cnt ls p ≤ ls.length := List.countP_le_length
theorem cnt_filter (ls : List A3) (p : Int) : (ls.filter (fun x => inL x p)).length = cnt ls p := by unfold cnt; rw [List.countP_eq_length_filter]
end Go.Proofs.Ytnibkipepmakgaa.parting
