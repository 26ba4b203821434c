/- Quads of a hand: the list that the program gathers, sorted, is the model's. -/
import Derived.Test.YtjmlefcmhjodeaaXw
namespace Go.Proofs.Ytjmlefcmhjodeaa.others
open Go.RowKit
open cards
set_option linter.unusedVariables false

/-- Pairs in order, no two of them with a place in common. -/
structure Pairs (L : List A2) : Prop where
  asc : ∀ p, p ∈ L → p.a < p.b
  apart : ∀ p q, p ∈ L → q ∈ L → p ≠ q → p.a ≠ q.a ∧ p.a ≠ q.b ∧ p.b ≠ q.a ∧ p.b ≠ q.b
  lt : L.Pairwise pLt
theorem by3_pairs {l : List Cd} {c : Cd} (hs : sorted l) (hok : l.all Cd.ok = true) : Pairs (by3 l (pAll l.length) c) where
  asc p hp := by
    obtain ⟨i, j, x, y, h1, h2, rfl, _⟩ := by3_mem.1 hp
    exact Int.ofNat_lt.2 h1
  apart p q hp hq hne := by3_apart hs hok hp hq hne
  lt := by3_lt
theorem A2.ext' {p q : A2} (h1 : p.a = q.a) (h2 : p.b = q.b) : p = q := by
  cases p; cases q; simp_all
/-- Of two pairs of the list the later one has the greater second place. -/
theorem Pairs.later {L : List A2} (h : Pairs L) {i j : Nat} {p q : A2} (hij : j < i) (hp : L[i]? = some p) (hq : L[j]? = some q) : q ≠ p ∧ q.b < p.b ∧ p.a ≠ q.a ∧ p.a ≠ q.b := by
  obtain ⟨hi, ei⟩ := List.getElem?_eq_some_iff.1 hp
  obtain ⟨hj, ej⟩ := List.getElem?_eq_some_iff.1 hq
  have h1 := (List.pairwise_iff_getElem.1 h.lt) j i hj hi hij
  rw [ei, ej] at h1
  have hne : q ≠ p := fun e => by subst e; unfold pLt at h1; omega
  have h2 := h.apart q p (List.mem_of_getElem? hq) (List.mem_of_getElem? hp) hne
  refine ⟨hne, ?_, fun e => h2.1 e.symm, fun e => h2.2.2.1 e.symm⟩
  unfold pLt at h1
  rcases h1 with h1 | ⟨h1, _⟩
  · exact h1
  · exact absurd h1 h2.2.2.2
theorem q4_d (p q : A2) : (q4 p q).d = p.b := by unfold q4; split; rfl; split <;> rfl
theorem q4_inj {p q r : A2} (hq : q.a < q.b) (hr : r.a < r.b) (h1 : p.a ≠ q.a) (h2 : p.a ≠ q.b) (h3 : p.a ≠ r.a) (h4 : p.a ≠ r.b) (h : q4 p q = q4 p r) : q = r := by
  have ha := congrArg Cd.a h
  have hb := congrArg Cd.b h
  have hc := congrArg Cd.c h
  clear h
  unfold q4 at ha hb hc
  apply A2.ext'
  all_goals
    by_cases c1 : p.a < q.a <;> by_cases c2 : p.a < q.b <;> by_cases c3 : p.a < r.a <;> by_cases c4 : p.a < r.b
    all_goals
      simp only [c1, c2, c3, c4, if_true, if_false] at ha hb hc
      omega
theorem qrow_nodup {L : List A2} (h : Pairs L) {i : Nat} {p : A2} (hp : L[i]? = some p) : ∀ j : Nat, j ≤ i → (qrow L p j).Pairwise (· ≠ ·)
  | 0, _ => .nil
  | j + 1, hj => by
    have hi := (List.getElem?_eq_some_iff.1 hp).1
    obtain ⟨q, hq⟩ : ∃ q, L[j]? = some q := ⟨_, List.getElem?_eq_getElem (by omega)⟩
    rw [qrow_step hq, List.pairwise_append]
    refine ⟨qrow_nodup h hp j (by omega), by simp, fun x hx y hy e => ?_⟩
    obtain ⟨j', q', h1, h2, rfl⟩ := qrow_mem.1 hx
    obtain rfl : y = q4 p q := by simpa using hy
    have k1 := h.later (by omega : j' < i) hp h2
    have k2 := h.later (by omega : j < i) hp hq
    have e2 := q4_inj (h.asc _ (List.mem_of_getElem? h2)) (h.asc _ (List.mem_of_getElem? hq)) k1.2.2.1 k1.2.2.2 k2.2.2.1 k2.2.2.2 e
    exact (h.later h1 hq h2).1 e2
theorem qcs_nodup {L : List A2} (h : Pairs L) : ∀ n : Nat, n ≤ L.length → (qcs L n).Pairwise (· ≠ ·)
  | 0, _ => .nil
  | n + 1, hn => by
    obtain ⟨p, hp⟩ : ∃ p, L[n]? = some p := ⟨_, List.getElem?_eq_getElem (by omega)⟩
    rw [qcs_step hp, List.pairwise_append]
    refine ⟨qcs_nodup h n (by omega), qrow_nodup h hp n (Nat.le_refl _), fun x hx y hy e => ?_⟩
    obtain ⟨i, j, p', q', h1, h2, h3, h4, rfl⟩ := qcs_mem.1 hx
    obtain ⟨j', q, _, _, rfl⟩ := qrow_mem.1 hy
    have := congrArg Cd.d e
    rw [q4_d, q4_d] at this
    have := (h.later h2 hp h3).2.1
    omega
/-- The quads with a middle. -/
def Qc (l : List Cd) (c : Cd) : List Cd := qcs (by3 l (pAll l.length) c) (by3 l (pAll l.length) c).length
theorem mids_mem {x y z t c : Cd} : c ∈ mids x y z t ↔ (third x y = c ∧ third z t = c) ∨ (third x z = c ∧ third y t = c) ∨ (third x t = c ∧ third y z = c) := by
  have e : ∀ a b : Cd, (c ∈ (if same a b = true then [a] else [])) ↔ (a = c ∧ b = c) := fun a b => by
    split
    · rename_i h
      have h := same_iff.1 h
      subst h
      simp [eq_comm]
    · rename_i h
      simp only [List.not_mem_nil, false_iff]
      rintro ⟨h1, h2⟩
      exact h (same_iff.2 (h1.trans h2.symm))
  unfold mids
  rw [List.mem_append, List.mem_append, e, e, e]
section
variable {l : List Cd} (hs : sorted l) (hok : l.all Cd.ok = true)
include hs hok
/-- What is among the quads with a middle. -/
theorem Qc_parts {c q : Cd} (h : q ∈ Qc l c) : ∃ (i k m n : Nat) (x y z t : Cd), i < k ∧ k < m ∧ m < n ∧ n < l.length ∧ q = ⟨i, k, m, n⟩ ∧ l[i]? = some x ∧ l[k]? = some y ∧ l[m]? = some z ∧ l[n]? = some t ∧ c ∈ mids x y z t := by
  obtain ⟨i', j', p, r, h1, h2, hp, hr, rfl⟩ := qcs_mem.1 h
  have hP := by3_pairs (c := c) hs hok
  obtain ⟨hne, hb, ha1, ha2⟩ := hP.later h1 hp hr
  obtain ⟨a, b, x, y, hab, hbl, rfl, hx, hy, hxy⟩ := by3_mem.1 (List.mem_of_getElem? hp)
  obtain ⟨a', b', x', y', hab', hbl', rfl, hx', hy', hxy'⟩ := by3_mem.1 (List.mem_of_getElem? hr)
  simp only at hb ha1 ha2
  unfold q4
  simp only
  by_cases c1 : (a : Int) < a'
  · rw [if_pos c1]
    exact ⟨a, a', b', b, x, x', y', y, by omega, hab', by omega, hbl, rfl, hx, hx', hy', hy, mids_mem.2 (.inr (.inr ⟨hxy, hxy'⟩))⟩
  · rw [if_neg c1]
    by_cases c2 : (a : Int) < b'
    · rw [if_pos c2]
      exact ⟨a', a, b', b, x', x, y', y, by omega, by omega, by omega, hbl, rfl, hx', hx, hy', hy, mids_mem.2 (.inr (.inl ⟨hxy', hxy⟩))⟩
    · rw [if_neg c2]
      exact ⟨a', b', a, b, x', y', x, y, hab', by omega, hab, hbl, rfl, hx', hy', hx, hy, mids_mem.2 (.inl ⟨hxy', hxy⟩)⟩
omit hok in
theorem hand_ne {i j : Nat} {x y : Cd} (h : i < j) (hx : l[i]? = some x) (hy : l[j]? = some y) : x ≠ y := fun e => by
  subst e
  have := hand_inj hs hx hy
  omega
theorem Qc_mem {c q : Cd} (h : q ∈ Qc l c) : q ∈ allQ l l.length := by
  obtain ⟨i, k, m, n, x, y, z, t, h1, h2, h3, h4, rfl, hx, hy, hz, ht, hc⟩ := Qc_parts hs hok h
  refine allQ_mem.2 ⟨i, k, m, n, by omega, h1, by omega, h2, by omega, h3, h4, ?_, rfl⟩
  unfold quadB
  rw [hx, hy, hz, ht]
  exact decide_eq_true (List.length_pos_of_mem hc)
theorem Qc_apart {c c' q : Cd} (h : q ∈ Qc l c) (h' : q ∈ Qc l c') : c = c' := by
  obtain ⟨i, k, m, n, x, y, z, t, h1, h2, h3, h4, rfl, hx, hy, hz, ht, hc⟩ := Qc_parts hs hok h
  obtain ⟨i', k', m', n', x', y', z', t', h1', h2', h3', h4', e, hx', hy', hz', ht', hc'⟩ := Qc_parts hs hok h'
  injection e with e1 e2 e3 e4
  obtain rfl : i = i' := by omega
  obtain rfl : k = k' := by omega
  obtain rfl : m = m' := by omega
  obtain rfl : n = n' := by omega
  rw [hx] at hx'; injection hx' with hx'; subst hx'
  rw [hy] at hy'; injection hy' with hy'; subst hy'
  rw [hz] at hz'; injection hz' with hz'; subst hz'
  rw [ht] at ht'; injection ht' with ht'; subst ht'
  have hl := mids_len (a := x) (ok_at hok hy) (ok_at hok hz) (ok_at hok ht) (hand_ne hs h2 hy hz) (hand_ne hs (by omega : k < n) hy ht) (hand_ne hs h3 hz ht)
  match hm : mids x y z t, hl with
  | [], _ => rw [hm] at hc; simp at hc
  | [a], _ => rw [hm] at hc hc'; simp at hc hc'; rw [hc, hc']
/-- Each quad is among those with some middle. -/
theorem allQ_Qc {q : Cd} (h : q ∈ allQ l l.length) : ∃ c : Cd, c.ok = true ∧ q ∈ Qc l c := by
  obtain ⟨i, k, m, n, h0, h1, h2, h3, h4, h5, h6, h7, rfl⟩ := allQ_mem.1 h
  obtain ⟨x, hx⟩ : ∃ x, l[i]? = some x := ⟨_, List.getElem?_eq_getElem h0⟩
  obtain ⟨y, hy⟩ : ∃ y, l[k]? = some y := ⟨_, List.getElem?_eq_getElem h2⟩
  obtain ⟨z, hz⟩ : ∃ z, l[m]? = some z := ⟨_, List.getElem?_eq_getElem h4⟩
  obtain ⟨t, ht⟩ : ∃ t, l[n]? = some t := ⟨_, List.getElem?_eq_getElem h6⟩
  unfold quadB at h7
  rw [hx, hy, hz, ht] at h7
  have h7 := of_decide_eq_true h7
  obtain ⟨c, hc⟩ := List.exists_mem_of_length_pos h7
  -- two pairs of the list, the later one the one of the greater second place
  have key : ∀ (p r : A2), p ∈ by3 l (pAll l.length) c → r ∈ by3 l (pAll l.length) c → r.b < p.b → q4 p r ∈ Qc l c := by
    intro p r hp hr hb
    obtain ⟨ip, hp⟩ := List.mem_iff_getElem?.1 hp
    obtain ⟨ir, hr⟩ := List.mem_iff_getElem?.1 hr
    have hlt : ir < ip := by
      rcases Nat.lt_trichotomy ir ip with e | e | e
      · exact e
      · subst e; rw [hp] at hr; injection hr with hr; subst hr; omega
      · have := ((by3_pairs (c := c) hs hok).later e hr hp).2.1; omega
    exact qcs_mem.2 ⟨ip, ir, p, r, hlt, (List.getElem?_eq_some_iff.1 hp).1, hp, hr, rfl⟩
  rcases mids_mem.1 hc with ⟨c1, c2⟩ | ⟨c1, c2⟩ | ⟨c1, c2⟩
  · refine ⟨c, by rw [← c1]; exact third_ok _ _, ?_⟩
    have := key ⟨(m : Nat), (n : Nat)⟩ ⟨(i : Nat), (k : Nat)⟩ (by3_mem.2 ⟨m, n, z, t, h5, h6, rfl, hz, ht, c2⟩) (by3_mem.2 ⟨i, k, x, y, h1, h2, rfl, hx, hy, c1⟩) (by simp only; omega)
    unfold q4 at this
    simp only at this
    rw [if_neg (by omega), if_neg (by omega)] at this
    exact this
  · refine ⟨c, by rw [← c1]; exact third_ok _ _, ?_⟩
    have := key ⟨(k : Nat), (n : Nat)⟩ ⟨(i : Nat), (m : Nat)⟩ (by3_mem.2 ⟨k, n, y, t, by omega, h6, rfl, hy, ht, c2⟩) (by3_mem.2 ⟨i, m, x, z, by omega, h4, rfl, hx, hz, c1⟩) (by simp only; omega)
    unfold q4 at this
    simp only at this
    rw [if_neg (by omega), if_pos (by omega)] at this
    exact this
  · refine ⟨c, by rw [← c1]; exact third_ok _ _, ?_⟩
    have := key ⟨(i : Nat), (n : Nat)⟩ ⟨(k : Nat), (m : Nat)⟩ (by3_mem.2 ⟨i, n, x, t, by omega, h6, rfl, hx, ht, c1⟩) (by3_mem.2 ⟨k, m, y, z, h3, h4, rfl, hy, hz, c2⟩) (by simp only; omega)
    unfold q4 at this
    simp only at this
    rw [if_pos (by omega)] at this
    exact this
/-- What is gathered over all cards that have pairs, sorted: the model's list. -/
theorem quads_sorted {S Q : List Cd} (hS : S.Pairwise (· ≠ ·)) (hall : ∀ c : Cd, c.ok = true → by3 l (pAll l.length) c ≠ [] → c ∈ S) (hp : Q.Perm (S.flatMap (Qc l))) (hQ : ∀ (i j : Nat) (x y : Cd), i < j → Q[i]? = some x → Q[j]? = some y → ¬ lex y x) : Q = allQ l l.length := by
  have hnd : (S.flatMap (Qc l)).Pairwise (· ≠ ·) := by
    rw [List.pairwise_flatMap]
    refine ⟨fun c _ => qcs_nodup (by3_pairs hs hok) _ (Nat.le_refl _), hS.imp (fun {c c'} hcc x hx y hy e => ?_)⟩
    subst e
    exact hcc (Qc_apart hs hok hx hy)
  have hndQ : Q.Pairwise (· ≠ ·) := (hp.pairwise_iff (fun {a b} h => Ne.symm h)).2 hnd
  refine pw_ext lex_irr (fun a b => lex_asy a b) ?_ (allQ_lex l _) (fun q => ?_)
  · rw [List.pairwise_iff_getElem]
    intro i j hi hj hij
    have h1 := hQ i j Q[i] Q[j] hij (List.getElem?_eq_getElem hi) (List.getElem?_eq_getElem hj)
    have h2 := (List.pairwise_iff_getElem.1 hndQ) i j hi hj hij
    generalize Q[i] = x at *
    generalize Q[j] = y at *
    by_cases h3 : lex x y
    · exact h3
    · exfalso
      apply h2
      apply same_iff.1
      rw [same_t]
      unfold lex at h1 h3
      omega
  · rw [hp.mem_iff, List.mem_flatMap]
    constructor
    · rintro ⟨c, _, h⟩; exact Qc_mem hs hok h
    · intro h
      obtain ⟨c, hc, h1⟩ := allQ_Qc hs hok h
      refine ⟨c, hall c hc (fun e => ?_), h1⟩
      unfold Qc at h1
      rw [e] at h1
      simp [qcs] at h1
end
end Go.Proofs.Ytjmlefcmhjodeaa.others
