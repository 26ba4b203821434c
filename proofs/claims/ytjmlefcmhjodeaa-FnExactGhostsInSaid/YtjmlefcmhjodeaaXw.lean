/- Quads of a hand: mathematics. -/
import Derived.Test.YtjmlefcmhjodeaaXp
import Derived.Test.YtjmlefcmhjodeaaXc
namespace Go.Proofs.Ytjmlefcmhjodeaa.others
open Go.RowKit
open cards
set_option linter.unusedVariables false

/-- Two lists in one strict order, of the same members, are one. -/
theorem pw_ext {α : Type} {r : α → α → Prop} (irr : ∀ a, ¬ r a a) (asy : ∀ a b, r a b → ¬ r b a) : ∀ {a b : List α}, a.Pairwise r → b.Pairwise r → (∀ x, x ∈ a ↔ x ∈ b) → a = b
  | [], [], _, _, _ => rfl
  | [], y :: b, _, _, h => by have := (h y).2 (.head _); simp at this
  | x :: a, [], _, _, h => by have := (h x).1 (.head _); simp at this
  | x :: a, y :: b, ha, hb, h => by
    obtain ⟨ha1, ha2⟩ := List.pairwise_cons.1 ha
    obtain ⟨hb1, hb2⟩ := List.pairwise_cons.1 hb
    have e : x = y := by
      rcases List.mem_cons.1 ((h x).1 (.head _)) with e | h1
      · exact e
      · rcases List.mem_cons.1 ((h y).2 (.head _)) with e | h2
        · exact e.symm
        · exact absurd (hb1 x h1) (asy _ _ (ha1 y h2))
    subst e
    rw [pw_ext irr asy ha2 hb2 (fun z => ⟨fun hz => by
      rcases List.mem_cons.1 ((h z).1 (.tail _ hz)) with e | h1
      · subst e; exact absurd (ha1 z hz) (irr z)
      · exact h1, fun hz => by
      rcases List.mem_cons.1 ((h z).2 (.tail _ hz)) with e | h1
      · subst e; exact absurd (hb1 z hz) (irr z)
      · exact h1⟩)]
/-- Rows of a matrix of lists, one behind the other. -/
theorem pw_rows {α : Type} {r : α → α → Prop} {f : Nat → List α} (h1 : ∀ i, (f i).Pairwise r) (h2 : ∀ i j, i < j → ∀ x ∈ f i, ∀ y ∈ f j, r x y) : ∀ n : Nat, ((List.range n).flatMap f).Pairwise r := fun n => by
  induction n with
  | zero => simp
  | succ n ih =>
    rw [List.range_succ, List.flatMap_append, List.pairwise_append]
    refine ⟨ih, by simpa using h1 n, fun x hx y hy => ?_⟩
    obtain ⟨i, hi, hx⟩ := List.mem_flatMap.1 hx
    have hi := List.mem_range.1 hi
    exact h2 i n hi x hx y (by simpa using hy)

/-- The order of rows of four numbers. -/
def lex (x y : Cd) : Prop := x.a < y.a ∨ (x.a = y.a ∧ (x.b < y.b ∨ (x.b = y.b ∧ (x.c < y.c ∨ (x.c = y.c ∧ x.d < y.d)))))
theorem lex_irr (x : Cd) : ¬ lex x x := by unfold lex; omega
theorem lex_asy (x y : Cd) (h : lex x y) : ¬ lex y x := by unfold lex at *; omega

/-- Have four cards of a hand a middle? -/
def quadB (l : List Cd) (i k m n : Nat) : Bool := match l[i]?, l[k]?, l[m]?, l[n]? with
  | some x, some y, some z, some t => decide (0 < (mids x y z t).length)
  | _, _, _, _ => false
def q3 (l : List Cd) (i k m : Nat) : Nat → List Cd
  | 0 => []
  | n + 1 => q3 l i k m n ++ (if m < n ∧ quadB l i k m n = true then [⟨i, k, m, n⟩] else [])
def q2 (l : List Cd) (i k : Nat) : Nat → List Cd
  | 0 => []
  | m + 1 => q2 l i k m ++ (if k < m then q3 l i k m l.length else [])
def q1 (l : List Cd) (i : Nat) : Nat → List Cd
  | 0 => []
  | k + 1 => q1 l i k ++ (if i < k then q2 l i k l.length else [])
def allQ (l : List Cd) : Nat → List Cd
  | 0 => []
  | i + 1 => allQ l i ++ q1 l i l.length
theorem q3_mem {l : List Cd} {i k m : Nat} {q : Cd} : ∀ {N : Nat}, q ∈ q3 l i k m N ↔ ∃ n : Nat, m < n ∧ n < N ∧ quadB l i k m n = true ∧ q = ⟨i, k, m, n⟩
  | 0 => by simp [q3]
  | N + 1 => by
    rw [q3, List.mem_append, q3_mem]
    constructor
    · rintro (⟨n, h1, h2, h3, rfl⟩ | h)
      · exact ⟨n, h1, by omega, h3, rfl⟩
      · split at h
        · rename_i hc
          exact ⟨N, hc.1, by omega, hc.2, by simpa using h⟩
        · simp at h
    · rintro ⟨n, h1, h2, h3, rfl⟩
      by_cases e : n = N
      · subst e; right; rw [if_pos ⟨h1, h3⟩]; simp
      · exact .inl ⟨n, h1, by omega, h3, rfl⟩
theorem q2_mem {l : List Cd} {i k : Nat} {q : Cd} : ∀ {M : Nat}, q ∈ q2 l i k M ↔ ∃ m n : Nat, k < m ∧ m < M ∧ m < n ∧ n < l.length ∧ quadB l i k m n = true ∧ q = ⟨i, k, m, n⟩
  | 0 => by simp [q2]
  | M + 1 => by
    rw [q2, List.mem_append, q2_mem]
    constructor
    · rintro (⟨m, n, h1, h2, h⟩ | h)
      · exact ⟨m, n, h1, by omega, h⟩
      · split at h
        · rename_i hc
          obtain ⟨n, h1, h2, h3, h4⟩ := q3_mem.1 h
          exact ⟨M, n, hc, by omega, h1, h2, h3, h4⟩
        · simp at h
    · rintro ⟨m, n, h1, h2, h3, h4, h5, h6⟩
      by_cases e : m = M
      · subst e; right; rw [if_pos h1]; exact q3_mem.2 ⟨n, h3, h4, h5, h6⟩
      · exact .inl ⟨m, n, h1, by omega, h3, h4, h5, h6⟩
theorem q1_mem {l : List Cd} {i : Nat} {q : Cd} : ∀ {K : Nat}, q ∈ q1 l i K ↔ ∃ k m n : Nat, i < k ∧ k < K ∧ k < m ∧ m < l.length ∧ m < n ∧ n < l.length ∧ quadB l i k m n = true ∧ q = ⟨i, k, m, n⟩
  | 0 => by simp [q1]
  | K + 1 => by
    rw [q1, List.mem_append, q1_mem]
    constructor
    · rintro (⟨k, m, n, h1, h2, h⟩ | h)
      · exact ⟨k, m, n, h1, by omega, h⟩
      · split at h
        · rename_i hc
          obtain ⟨m, n, h⟩ := q2_mem.1 h
          exact ⟨K, m, n, hc, by omega, h⟩
        · simp at h
    · rintro ⟨k, m, n, h1, h2, h⟩
      by_cases e : k = K
      · subst e; right; rw [if_pos h1]; exact q2_mem.2 ⟨m, n, h⟩
      · exact .inl ⟨k, m, n, h1, by omega, h⟩
theorem allQ_mem {l : List Cd} {q : Cd} : ∀ {I : Nat}, q ∈ allQ l I ↔ ∃ i k m n : Nat, i < I ∧ i < k ∧ k < l.length ∧ k < m ∧ m < l.length ∧ m < n ∧ n < l.length ∧ quadB l i k m n = true ∧ q = ⟨i, k, m, n⟩
  | 0 => by simp [allQ]
  | I + 1 => by
    rw [allQ, List.mem_append, allQ_mem]
    constructor
    · rintro (⟨i, k, m, n, h1, h⟩ | h)
      · exact ⟨i, k, m, n, by omega, h⟩
      · obtain ⟨k, m, n, h⟩ := q1_mem.1 h
        exact ⟨I, k, m, n, by omega, h⟩
    · rintro ⟨i, k, m, n, h1, h⟩
      by_cases e : i = I
      · subst e; exact .inr (q1_mem.2 ⟨k, m, n, h⟩)
      · exact .inl ⟨i, k, m, n, by omega, h⟩
theorem q3_lex (l : List Cd) (i k m : Nat) : ∀ N : Nat, (q3 l i k m N).Pairwise lex
  | 0 => .nil
  | N + 1 => by
    rw [q3, List.pairwise_append]
    refine ⟨q3_lex l i k m N, by split <;> simp, fun x hx y hy => ?_⟩
    obtain ⟨n, h1, h2, _, rfl⟩ := q3_mem.1 hx
    split at hy
    · obtain rfl : y = ⟨i, k, m, N⟩ := by simpa using hy
      exact .inr ⟨rfl, .inr ⟨rfl, .inr ⟨rfl, Int.ofNat_lt.2 h2⟩⟩⟩
    · simp at hy
theorem q2_lex (l : List Cd) (i k : Nat) : ∀ M : Nat, (q2 l i k M).Pairwise lex
  | 0 => .nil
  | M + 1 => by
    rw [q2, List.pairwise_append]
    refine ⟨q2_lex l i k M, by split; exact q3_lex l i k M _; exact .nil, fun x hx y hy => ?_⟩
    obtain ⟨m, n, h1, h2, _, _, _, rfl⟩ := q2_mem.1 hx
    split at hy
    · obtain ⟨n', _, _, _, rfl⟩ := q3_mem.1 hy
      exact .inr ⟨rfl, .inr ⟨rfl, .inl (Int.ofNat_lt.2 h2)⟩⟩
    · simp at hy
theorem q1_lex (l : List Cd) (i : Nat) : ∀ K : Nat, (q1 l i K).Pairwise lex
  | 0 => .nil
  | K + 1 => by
    rw [q1, List.pairwise_append]
    refine ⟨q1_lex l i K, by split; exact q2_lex l i K _; exact .nil, fun x hx y hy => ?_⟩
    obtain ⟨k, m, n, h1, h2, _, _, _, _, _, rfl⟩ := q1_mem.1 hx
    split at hy
    · obtain ⟨m', n', _, _, _, _, _, rfl⟩ := q2_mem.1 hy
      exact .inr ⟨rfl, .inl (Int.ofNat_lt.2 h2)⟩
    · simp at hy
theorem allQ_lex (l : List Cd) : ∀ I : Nat, (allQ l I).Pairwise lex
  | 0 => .nil
  | I + 1 => by
    rw [allQ, List.pairwise_append]
    refine ⟨allQ_lex l I, q1_lex l I _, fun x hx y hy => ?_⟩
    obtain ⟨i, k, m, n, h1, _, _, _, _, _, _, _, rfl⟩ := allQ_mem.1 hx
    obtain ⟨k', m', n', _, _, _, _, _, _, _, rfl⟩ := q1_mem.1 hy
    exact .inl (Int.ofNat_lt.2 h1)

/-- The pairs of a list stand in the order of their greater places, then of their less ones. -/
def pLt (p q : A2) : Prop := p.b < q.b ∨ (p.b = q.b ∧ p.a < q.a)
theorem pRow_lt (m : Nat) : ∀ i : Nat, (pRow m i).Pairwise pLt
  | 0 => .nil
  | i + 1 => by
    rw [pRow, List.pairwise_append]
    refine ⟨pRow_lt m i, by simp, fun x hx y hy => ?_⟩
    obtain ⟨j, hj, rfl⟩ := pRow_mem.1 hx
    obtain rfl : y = ⟨i, m⟩ := by simpa using hy
    exact .inr ⟨rfl, Int.ofNat_lt.2 hj⟩
theorem pAll_lt : ∀ m : Nat, (pAll m).Pairwise pLt
  | 0 => .nil
  | m + 1 => by
    rw [pAll, List.pairwise_append]
    refine ⟨pAll_lt m, pRow_lt m m, fun x hx y hy => ?_⟩
    obtain ⟨i, j, h1, h2, rfl⟩ := pAll_mem.1 hx
    obtain ⟨i', h3, rfl⟩ := pRow_mem.1 hy
    exact .inl (Int.ofNat_lt.2 h2)
section
variable {l : List Cd} {c : Cd} (hs : sorted l) (hok : l.all Cd.ok = true)
theorem by3_mem {p : A2} : p ∈ by3 l (pAll l.length) c ↔ ∃ (i j : Nat) (x y : Cd), i < j ∧ j < l.length ∧ p = ⟨(i : Nat), (j : Nat)⟩ ∧ l[i]? = some x ∧ l[j]? = some y ∧ third x y = c := by
  unfold by3
  rw [List.mem_filter, pAll_mem]
  constructor
  · rintro ⟨⟨i, j, h1, h2, rfl⟩, h3⟩
    have hx : l[i]? = some l[i] := List.getElem?_eq_getElem (by omega)
    have hy : l[j]? = some l[j] := List.getElem?_eq_getElem (by omega)
    exact ⟨i, j, _, _, h1, h2, rfl, hx, hy, by have := same_iff.1 h3; rwa [th_at hx hy] at this⟩
  · rintro ⟨i, j, x, y, h1, h2, rfl, hx, hy, h3⟩
    exact ⟨⟨i, j, h1, h2, rfl⟩, by rw [th_at hx hy]; exact same_iff.2 h3⟩
theorem by3_lt : (by3 l (pAll l.length) c).Pairwise pLt := (pAll_lt l.length).filter _
theorem third_inj {x y z : Cd} (hy : y.ok = true) (hz : z.ok = true) (h : third x y = third x z) : y = z := by
  obtain ⟨⟨y1, y2⟩, ⟨y3, y4⟩, ⟨y5, y6⟩, y7, y8⟩ := Cd.bd hy
  obtain ⟨⟨z1, z2⟩, ⟨z3, z4⟩, ⟨z5, z6⟩, z7, z8⟩ := Cd.bd hz
  apply same_iff.1
  rw [same_t]
  have h := same_iff.2 h
  rw [same_t] at h
  simp only [third] at h
  omega
include hs
theorem hand_inj {i j : Nat} {x : Cd} (hx : l[i]? = some x) (hy : l[j]? = some x) : i = j := by
  rcases Nat.lt_trichotomy i j with h | h | h
  · have := sorted_lt hs h hx hy; omega
  · exact h
  · have := sorted_lt hs h hy hx; omega
include hok
/-- Two pairs with one third card have no place in common. -/
theorem by3_apart {p q : A2} (hp : p ∈ by3 l (pAll l.length) c) (hq : q ∈ by3 l (pAll l.length) c) (hne : p ≠ q) : p.a ≠ q.a ∧ p.a ≠ q.b ∧ p.b ≠ q.a ∧ p.b ≠ q.b := by
  obtain ⟨i, j, x, y, h1, h2, rfl, hx, hy, h3⟩ := by3_mem.1 hp
  obtain ⟨i', j', x', y', h1', h2', rfl, hx', hy', h3'⟩ := by3_mem.1 hq
  have ox := ok_at hok hx
  have oy := ok_at hok hy
  have ox' := ok_at hok hx'
  have oy' := ok_at hok hy'
  have inj := fun (a b : Nat) z (ha : l[a]? = some z) (hb : l[b]? = some z) => hand_inj hs ha hb
  simp only
  refine ⟨fun e => ?_, fun e => ?_, fun e => ?_, fun e => ?_⟩
  · obtain rfl : i = i' := by omega
    rw [hx] at hx'; injection hx' with hx'; subst hx'
    have e2 := third_inj oy oy' (h3.trans h3'.symm)
    subst e2
    obtain rfl := inj _ _ _ hy hy'
    exact hne rfl
  · obtain rfl : i = j' := by omega
    rw [hx] at hy'; injection hy' with hy'; subst hy'
    have e2 := third_inj oy ox' (h3.trans (h3'.symm.trans (third_comm _ _)))
    subst e2
    have := inj _ _ _ hy hx'
    omega
  · obtain rfl : j = i' := by omega
    rw [hy] at hx'; injection hx' with hx'; subst hx'
    have e2 := third_inj ox oy' ((third_comm _ _).trans (h3.trans h3'.symm))
    subst e2
    have := inj _ _ _ hx hy'
    omega
  · obtain rfl : j = j' := by omega
    rw [hy] at hy'; injection hy' with hy'; subst hy'
    have e2 := third_inj ox ox' ((third_comm _ _).trans (h3.trans (h3'.symm.trans (third_comm _ _))))
    subst e2
    obtain rfl := inj _ _ _ hx hx'
    exact hne rfl
end
/-- The places of two pairs, the first one of the greater second place, in ascending order. -/
def q4 (p q : A2) : Cd := if p.a < q.a then ⟨p.a, q.a, q.b, p.b⟩ else if p.a < q.b then ⟨q.a, p.a, q.b, p.b⟩ else ⟨q.a, q.b, p.a, p.b⟩
def qrow (L : List A2) (p : A2) : Nat → List Cd
  | 0 => []
  | j + 1 => qrow L p j ++ (match L[j]? with | some q => [q4 p q] | none => [])
/-- All quads of two pairs of a list. -/
def qcs (L : List A2) : Nat → List Cd
  | 0 => []
  | i + 1 => qcs L i ++ (match L[i]? with | some p => qrow L p i | none => [])
theorem qrow_step {L : List A2} {p q : A2} {j : Nat} (h : L[j]? = some q) : qrow L p (j + 1) = qrow L p j ++ [q4 p q] := by simp only [qrow, h]
theorem qcs_step {L : List A2} {p : A2} {i : Nat} (h : L[i]? = some p) : qcs L (i + 1) = qcs L i ++ qrow L p i := by simp only [qcs, h]
theorem qrow_mem {L : List A2} {p : A2} {x : Cd} : ∀ {i : Nat}, x ∈ qrow L p i ↔ ∃ j q, j < i ∧ L[j]? = some q ∧ x = q4 p q
  | 0 => by simp [qrow]
  | i + 1 => by
    cases h : L[i]? with
    | none =>
      have e : qrow L p (i + 1) = qrow L p i := by simp only [qrow, h, List.append_nil]
      rw [e, qrow_mem]
      constructor
      · rintro ⟨j, q, h1, h2⟩; exact ⟨j, q, by omega, h2⟩
      · rintro ⟨j, q, h1, h2, h3⟩
        by_cases e : j = i
        · subst e; rw [h] at h2; cases h2
        · exact ⟨j, q, by omega, h2, h3⟩
    | some q0 =>
      rw [qrow_step h, List.mem_append, qrow_mem, List.mem_singleton]
      constructor
      · rintro (⟨j, q, h1, h2⟩ | rfl)
        · exact ⟨j, q, by omega, h2⟩
        · exact ⟨i, q0, by omega, h, rfl⟩
      · rintro ⟨j, q, h1, h2, h3⟩
        by_cases e : j = i
        · subst e; rw [h] at h2; injection h2 with h2; subst h2; exact .inr h3
        · exact .inl ⟨j, q, by omega, h2, h3⟩
theorem qcs_mem {L : List A2} {x : Cd} : ∀ {n : Nat}, x ∈ qcs L n ↔ ∃ i j p q, j < i ∧ i < n ∧ L[i]? = some p ∧ L[j]? = some q ∧ x = q4 p q
  | 0 => by simp [qcs]
  | n + 1 => by
    cases h : L[n]? with
    | none =>
      have e : qcs L (n + 1) = qcs L n := by simp only [qcs, h, List.append_nil]
      rw [e, qcs_mem]
      constructor
      · rintro ⟨i, j, p, q, h1, h2, h3⟩; exact ⟨i, j, p, q, h1, by omega, h3⟩
      · rintro ⟨i, j, p, q, h1, h2, h3, h4⟩
        by_cases e : i = n
        · subst e; rw [h] at h3; cases h3
        · exact ⟨i, j, p, q, h1, by omega, h3, h4⟩
    | some p0 =>
      rw [qcs_step h, List.mem_append, qcs_mem, qrow_mem]
      constructor
      · rintro (⟨i, j, p, q, h1, h2, h3⟩ | ⟨j, q, h1, h2, h3⟩)
        · exact ⟨i, j, p, q, h1, by omega, h3⟩
        · exact ⟨n, j, p0, q, h1, by omega, h, h2, h3⟩
      · rintro ⟨i, j, p, q, h1, h2, h3, h4, h5⟩
        by_cases e : i = n
        · subst e; rw [h] at h3; injection h3 with h3; subst h3; exact .inr ⟨j, q, h1, h4, h5⟩
        · exact .inl ⟨i, j, p, q, h1, by omega, h3, h4, h5⟩
end Go.Proofs.Ytjmlefcmhjodeaa.others
