/- Deals as lists: lines, laying, taking, steps, and how a deal is played to its end. -/
import Derived.Test.YtjanphcfflahkaaQa
import Derived.Test.YtjanphcfflahkaaR3
namespace Go.Proofs.Ytjanphcfflahkaa.deal
open Go.RowKit
open cards
set_option linter.unusedVariables false

/-- A deal. -/
structure Dl where
  s : Int
  nx : Int
  l : List Cd
def Dl.okP (d : Dl) : Prop := (0 ≤ d.s ∧ d.s ≤ 65535) ∧ (0 ≤ d.nx ∧ d.nx ≤ 81) ∧ (∀ c ∈ d.l, c ∈ (pile d.s).take d.nx.toNat) ∧ d.l.Nodup
noncomputable def Dl.ok (d : Dl) : Bool := @decide d.okP (Classical.propDecidable _)
theorem Dl.ok_iff {d : Dl} : d.ok = true ↔ d.okP := by
  unfold Dl.ok
  exact ⟨fun h => @of_decide_eq_true _ (Classical.propDecidable _) h, fun h => @decide_eq_true _ (Classical.propDecidable _) h⟩
theorem Dl.okP.cards {d : Dl} (h : d.okP) : d.l.all Cd.ok = true := by
  rw [List.all_eq_true]
  intro c hc
  exact List.all_eq_true.1 (pile_ok h.1) c (List.mem_of_mem_take (h.2.2.1 c hc))
theorem Dl.okP.len {d : Dl} (h : d.okP) : d.l.length ≤ d.nx.toNat := by
  have h1 := nodup_len _ _ h.2.2.2 h.2.2.1
  rw [List.length_take] at h1
  omega
theorem Dl.okP.len81 {d : Dl} (h : d.okP) : d.l.length ≤ 81 := by have := h.len; have := h.2.1; omega

/-! Lines. -/
def pl (l : List Cd) (i j : Nat) (m : Int) : List A3 := match l[i]?, l[j]? with
  | some x, some y => if (j : Int) < posn l (third x y) ∧ posn l (third x y) < m then [⟨i, j, posn l (third x y)⟩] else []
  | _, _ => []
def lnR (l : List Cd) (i : Nat) : Nat → List A3
  | 0 => []
  | j + 1 => lnR l i j ++ (if i < j then pl l i j l.length else [])
def lns (l : List Cd) : Nat → List A3
  | 0 => []
  | i + 1 => lns l i ++ lnR l i l.length
/-- All lines. -/
def lines (l : List Cd) : List A3 := lns l l.length
theorem pl_len (l : List Cd) (i j : Nat) (m : Int) : (pl l i j m).length ≤ 1 := by unfold pl; split <;> (try split) <;> simp
theorem lnR_len (l : List Cd) (i : Nat) : ∀ j : Nat, (lnR l i j).length ≤ j
  | 0 => by simp [lnR]
  | j + 1 => by
    have := lnR_len l i j
    have := pl_len l i j l.length
    simp only [lnR, List.length_append]
    split <;> simp <;> omega
theorem lns_len (l : List Cd) : ∀ i : Nat, (lns l i).length ≤ i * l.length
  | 0 => by simp [lns]
  | i + 1 => by
    have := lns_len l i
    have := lnR_len l i l.length
    simp only [lns, List.length_append, Nat.succ_mul]
    omega
theorem lnR_low {l : List Cd} {i : Nat} : ∀ {j : Nat}, j ≤ i + 1 → lnR l i j = []
  | 0, _ => rfl
  | j + 1, h => by
    simp only [lnR]
    rw [lnR_low (by omega), if_neg (by omega)]; rfl
theorem posn_lt (l : List Cd) (c : Cd) : posn l c < l.length := by
  unfold posn
  split
  · rename_i h
    have := fi_get (hasC_iff.1 h)
    have := (List.getElem?_eq_some_iff.1 this).1
    omega
  · omega
theorem posn_is {l : List Cd} (hd : l.Nodup) {c : Cd} {m : Nat} : posn l c = (m : Int) ↔ l[m]? = some c := by
  constructor
  · intro h
    unfold posn at h
    split at h
    · rename_i h1
      have h2 := fi_get (hasC_iff.1 h1)
      rw [show fi c l = m by omega] at h2; exact h2
    · omega
  · intro h
    unfold posn
    rw [if_pos (hasC_iff.2 (List.mem_of_getElem? h)), fi_nodup hd h]
/-- The program's step: the third card's place is asked for. -/
theorem lnR_step {l : List Cd} {i j : Nat} {x y : Cd} (hij : i < j) (hx : l[i]? = some x) (hy : l[j]? = some y) : lnR l i (j + 1) = lnR l i j ++ (if (j : Int) < posn l (third x y) then [⟨i, j, posn l (third x y)⟩] else []) := by
  simp only [lnR]
  rw [if_pos hij]
  unfold pl
  rw [hx, hy]
  have := posn_lt l (third x y)
  simp [this]
/-- The model's step: the next third card's turn. -/
theorem pl_low {l : List Cd} {i j : Nat} : pl l i j ((j + 1 : Nat) : Int) = [] := by
  unfold pl; split
  · rw [if_neg (by omega)]
  · rfl
theorem line_iff {x y z : Cd} (hne : x ≠ y) : line x y z = true ↔ third x y = z := by
  unfold line
  rw [Bool.and_eq_true, same_iff]
  have h1 : same x y = false := by
    cases h : same x y
    · rfl
    · exact absurd (same_iff.1 h) hne
  simp [h1]
theorem pl_step {l : List Cd} (hd : l.Nodup) {i j m : Nat} {x y z : Cd} (hij : i < j) (hjm : j < m) (hx : l[i]? = some x) (hy : l[j]? = some y) (hz : l[m]? = some z) :
    pl l i j ((m + 1 : Nat) : Int) = pl l i j (m : Int) ++ (if line x y z = true then [⟨i, j, m⟩] else []) := by
  have hne : x ≠ y := fun e => by rw [e] at hx; exact absurd (nodup_at hd hx hy) (by omega)
  unfold pl
  rw [hx, hy]
  simp only
  by_cases hl : line x y z = true
  · have h1 := (posn_is hd).2 ((line_iff hne).1 hl ▸ hz)
    rw [if_pos hl, h1, if_pos (by omega), if_neg (by omega)]; rfl
  · rw [if_neg hl, List.append_nil]
    have h1 : posn l (third x y) ≠ (m : Int) := fun e => hl ((line_iff hne).2 (by have := (posn_is hd).1 e; rw [hz] at this; injection this with this; exact this.symm))
    by_cases hc : (j : Int) < posn l (third x y) ∧ posn l (third x y) < m
    · rw [if_pos hc, if_pos (by omega)]
    · rw [if_neg hc, if_neg (by omega)]
theorem lnR_all {l : List Cd} {i j : Nat} (hij : i < j) : lnR l i (j + 1) = lnR l i j ++ pl l i j l.length := by simp only [lnR]; rw [if_pos hij]
/-- What a line is: three places in ascending order whose cards are a line. -/
def isLn (l : List Cd) (t : A3) : Prop := ∃ (i j m : Nat) (x y z : Cd), i < j ∧ j < m ∧ l[i]? = some x ∧ l[j]? = some y ∧ l[m]? = some z ∧ line x y z = true ∧ t = ⟨i, j, m⟩
theorem mem_pl {l : List Cd} (hd : l.Nodup) {i j : Nat} {t : A3} (hij : i < j) : t ∈ pl l i j l.length ↔ isLn l t ∧ t.a = i ∧ t.b = j := by
  constructor
  · intro h
    unfold pl at h
    split at h
    · rename_i x y hx hy
      split at h
      · rename_i hc
        obtain ⟨m, hm⟩ : ∃ m : Nat, posn l (third x y) = (m : Int) := ⟨(posn l (third x y)).toNat, by omega⟩
        rw [hm] at h hc
        simp at h
        subst h
        have hne : x ≠ y := fun e => by rw [e] at hx; exact absurd (nodup_at hd hx hy) (by omega)
        exact ⟨⟨i, j, m, x, y, third x y, hij, by omega, hx, hy, (posn_is hd).1 hm, (line_iff hne).2 rfl, rfl⟩, rfl, rfl⟩
      · simp at h
    · simp at h
  · rintro ⟨⟨i', j', m, x, y, z, h1, h2, hx, hy, hz, hl, rfl⟩, ha, hb⟩
    simp only at ha hb
    obtain rfl : i' = i := by omega
    obtain rfl : j' = j := by omega
    have hne : x ≠ y := fun e => by rw [e] at hx; exact absurd (nodup_at hd hx hy) (by omega)
    have h3 := (posn_is hd).2 ((line_iff hne).1 hl ▸ hz)
    unfold pl
    rw [hx, hy]
    simp only
    have := (List.getElem?_eq_some_iff.1 hz).1
    rw [h3, if_pos (by omega)]
    simp
theorem mem_lnR {l : List Cd} (hd : l.Nodup) {i : Nat} {t : A3} : ∀ {j : Nat}, t ∈ lnR l i j ↔ isLn l t ∧ t.a = i ∧ t.b < j
  | 0 => by
    simp only [lnR, List.not_mem_nil, false_iff]
    rintro ⟨⟨i', j', m, x, y, z, h1, h2, hx, hy, hz, hl, rfl⟩, ha, hb⟩
    simp only at hb; omega
  | j + 1 => by
    simp only [lnR, List.mem_append]
    rw [mem_lnR hd]
    by_cases hij : i < j
    · rw [if_pos hij, mem_pl hd hij]
      constructor
      · rintro (⟨h1, h2, h3⟩ | ⟨h1, h2, h3⟩)
        · exact ⟨h1, h2, by omega⟩
        · exact ⟨h1, h2, by omega⟩
      · rintro ⟨h1, h2, h3⟩
        by_cases hb : t.b = (j : Int)
        · exact .inr ⟨h1, h2, hb⟩
        · exact .inl ⟨h1, h2, by omega⟩
    · rw [if_neg hij]
      simp only [List.not_mem_nil, or_false]
      constructor
      · rintro ⟨h1, h2, h3⟩
        exact ⟨h1, h2, by omega⟩
      · rintro ⟨h1, h2, h3⟩
        refine ⟨h1, h2, ?_⟩
        obtain ⟨i', j', m, x, y, z, g1, g2, hx, hy, hz, hl, rfl⟩ := h1
        simp only at h2 h3 ⊢
        omega
theorem mem_lns {l : List Cd} (hd : l.Nodup) {t : A3} : ∀ {i : Nat}, t ∈ lns l i ↔ isLn l t ∧ t.a < i
  | 0 => by
    simp only [lns, List.not_mem_nil, false_iff]
    rintro ⟨⟨i', j', m, x, y, z, h1, h2, hx, hy, hz, hl, rfl⟩, ha⟩
    simp only at ha; omega
  | i + 1 => by
    simp only [lns, List.mem_append]
    rw [mem_lns hd, mem_lnR hd]
    constructor
    · rintro (⟨h1, h2⟩ | ⟨h1, h2, h3⟩)
      · exact ⟨h1, by omega⟩
      · exact ⟨h1, by omega⟩
    · rintro ⟨h1, h2⟩
      by_cases hb : t.a = (i : Int)
      · refine .inr ⟨h1, hb, ?_⟩
        obtain ⟨i', j', m, x, y, z, g1, g2, hx, hy, hz, hl, rfl⟩ := h1
        have := (List.getElem?_eq_some_iff.1 hy).1
        simp only; omega
      · exact .inl ⟨h1, by omega⟩
theorem mem_lines {l : List Cd} (hd : l.Nodup) {t : A3} : t ∈ lines l ↔ isLn l t := by
  unfold lines
  rw [mem_lns hd]
  constructor
  · exact fun h => h.1
  · intro h
    refine ⟨h, ?_⟩
    obtain ⟨i', j', m, x, y, z, g1, g2, hx, hy, hz, hl, rfl⟩ := h
    have := (List.getElem?_eq_some_iff.1 hx).1
    simp only; omega
theorem lines_len (l : List Cd) : (lines l).length ≤ l.length * l.length := lns_len l l.length

/-! Laying, taking, steps. -/
def endD (d : Dl) (n : Int) : Int := if 81 < d.nx + n then 81 else d.nx + n
noncomputable def layD (d : Dl) (n : Int) : Dl := ⟨d.s, endD d n, d.l ++ ((pile d.s).drop d.nx.toNat).take ((endD d n).toNat - d.nx.toNat)⟩
def inA (t : A3) (k : Nat) : Bool := decide ((k : Int) = t.a ∨ (k : Int) = t.b ∨ (k : Int) = t.c)
def keep (l : List Cd) (t : A3) : Nat → List Cd
  | 0 => []
  | k + 1 => keep l t k ++ (match l[k]? with
    | some c => if inA t k = true then [] else [c]
    | none => [])
theorem keep_yes {l : List Cd} {t : A3} {k : Nat} {c : Cd} (h : l[k]? = some c) (hq : inA t k = false) : keep l t (k + 1) = keep l t k ++ [c] := by simp [keep, h, hq]
theorem keep_no {l : List Cd} {t : A3} {k : Nat} (hq : inA t k = true) : keep l t (k + 1) = keep l t k := by simp only [keep]; split <;> simp [hq]
def needD (l : List Cd) (t : A3) : Int := if 0 < 12 - ((keep l t l.length).length : Int) then 12 - ((keep l t l.length).length : Int) else 0
noncomputable def takeD (d : Dl) (t : A3) : Dl := layD ⟨d.s, d.nx, keep d.l t d.l.length⟩ (needD d.l t)
noncomputable def stepD (d : Dl) : Dl := match lines d.l with
  | [] => layD d 3
  | t :: _ => takeD d t
def stuckD (d : Dl) : Bool := decide ((lines d.l).length = 0)
def overD (d : Dl) : Bool := decide (d.nx = 81) && stuckD d
theorem keep_sub (l : List Cd) (t : A3) : ∀ k, (keep l t k).Sublist (l.take k)
  | 0 => by simp [keep]
  | k + 1 => by
    have ih := keep_sub l t k
    cases h : l[k]? with
    | none =>
      have h1 : l.take (k + 1) = l.take k := by rw [List.take_add_one, h]; simp
      simp only [keep, h, List.append_nil, h1]; exact ih
    | some c =>
      rw [take_snoc h]
      cases hq : inA t k
      · rw [keep_yes h hq]; exact ih.append (List.Sublist.refl _)
      · rw [keep_no hq]; exact ih.trans (List.sublist_append_left _ _)
theorem keep_len3 {l : List Cd} {i j m : Nat} (hij : i < j) (hjm : j < m) (hm : m < l.length) : ∀ k, k ≤ l.length → ((keep l ⟨i, j, m⟩ k).length : Int) = k - (if i < k then 1 else 0) - (if j < k then 1 else 0) - (if m < k then 1 else 0)
  | 0, _ => by simp [keep]
  | k + 1, hk => by
    have ih := keep_len3 hij hjm hm k (by omega)
    have h := List.getElem?_eq_getElem (show k < l.length by omega)
    cases hq : inA ⟨i, j, m⟩ k
    · rw [keep_yes h hq, List.length_append]
      unfold inA at hq
      have := of_decide_eq_false hq
      simp only at this
      simp only [List.length_cons, List.length_nil]
      repeat' split
      all_goals (repeat' split at ih) <;> omega
    · rw [keep_no hq]
      unfold inA at hq
      have := of_decide_eq_true hq
      simp only at this
      repeat' split
      all_goals (repeat' split at ih) <;> omega
theorem keep_line {l : List Cd} {t : A3} (h : isLn l t) : (keep l t l.length).length + 3 = l.length := by
  obtain ⟨i, j, m, x, y, z, g1, g2, hx, hy, hz, hl, rfl⟩ := h
  have hm := (List.getElem?_eq_some_iff.1 hz).1
  have := keep_len3 (l := l) g1 g2 hm l.length (Nat.le_refl _)
  rw [if_pos (by omega), if_pos (by omega), if_pos hm] at this
  omega
theorem endD_bd {d : Dl} {n : Int} (h1 : d.nx ≤ 81) (hn : 0 ≤ n) : d.nx ≤ endD d n ∧ endD d n ≤ 81 ∧ endD d n ≤ d.nx + n ∧ (d.nx < 81 → 0 < n → d.nx < endD d n) := by unfold endD; split <;> omega
theorem lay_len {d : Dl} {n : Int} (h0 : 0 ≤ d.nx) (h1 : d.nx ≤ 81) (hn : 0 ≤ n) : ((layD d n).l.length : Int) = d.l.length + (endD d n - d.nx) := by
  have := endD_bd h1 hn
  simp only [layD, List.length_append, List.length_take, List.length_drop, pile_len]
  omega
theorem lay_ok {d : Dl} {n : Int} (h : d.okP) (hn : 0 ≤ n) : (layD d n).okP := by
  obtain ⟨h1, h2, h3, h4⟩ := h
  have he := endD_bd h2.2 hn
  have hsub : ∀ c, c ∈ ((pile d.s).drop d.nx.toNat).take ((endD d n).toNat - d.nx.toNat) → c ∈ (pile d.s).take (endD d n).toNat := fun c hc => by
    rw [List.take_drop] at hc
    rw [show d.nx.toNat + ((endD d n).toNat - d.nx.toNat) = (endD d n).toNat by omega] at hc
    exact List.mem_of_mem_drop hc
  refine ⟨h1, ⟨Int.le_trans h2.1 he.1, he.2.1⟩, ?_, ?_⟩
  · intro c hc
    rcases List.mem_append.1 hc with hc | hc
    · have : (pile d.s).take d.nx.toNat <+: (pile d.s).take (endD d n).toNat := (List.take_prefix_take_left (by omega))
      exact this.subset (h3 c hc)
    · exact hsub c hc
  · refine List.nodup_append.2 ⟨h4, (pile_nodup h1).sublist ((List.take_sublist _ _).trans (List.drop_sublist _ _)), ?_⟩
    intro a ha b hb e
    subst e
    have g1 := h3 a ha
    have g2 := List.mem_of_mem_take hb
    have hsplit := pile_nodup h1
    rw [← List.take_append_drop d.nx.toNat (pile d.s)] at hsplit
    exact (List.nodup_append.1 hsplit).2.2 a g1 a g2 rfl
theorem keep_ok {d : Dl} {t : A3} (h : d.okP) : (Dl.mk d.s d.nx (keep d.l t d.l.length)).okP := by
  have hs := keep_sub d.l t d.l.length
  rw [List.take_length] at hs
  exact ⟨h.1, h.2.1, fun c hc => h.2.2.1 c (hs.subset hc), h.2.2.2.sublist hs⟩
theorem need_nn (l : List Cd) (t : A3) : 0 ≤ needD l t ∧ needD l t ≤ 12 := by unfold needD; split <;> omega
theorem take_ok' {d : Dl} {t : A3} (h : d.okP) : (takeD d t).okP := lay_ok (keep_ok h) (need_nn _ _).1
theorem step_ok {d : Dl} (h : d.okP) : (stepD d).okP := by
  unfold stepD
  split
  · exact lay_ok h (by omega)
  · exact take_ok' h
noncomputable def newD (s : Int) : Dl := layD ⟨s, 0, []⟩ 12
theorem new_ok {s : Int} (h : 0 ≤ s ∧ s ≤ 65535) : (newD s).okP := lay_ok ⟨h, by simp, by simp, by simp⟩ (by omega)

/-! A deal is played to its end. -/
noncomputable def stp (d : Dl) : Nat → Dl
  | 0 => d
  | k + 1 => stepD (stp d k)
noncomputable def tk (d : Dl) : Nat → Int
  | 0 => 0
  | k + 1 => tk d k + (if stuckD (stp d k) = true then 0 else 1)
def mu (d : Dl) : Int := 2 * (81 - d.nx) + d.l.length
theorem stp_ok {d : Dl} (h : d.okP) : ∀ k, (stp d k).okP
  | 0 => h
  | k + 1 => step_ok (stp_ok h k)
theorem mu_nn {d : Dl} (h : d.okP) : 0 ≤ mu d := by have := h.2.1; unfold mu; omega
theorem stuck_iff {d : Dl} : stuckD d = true ↔ lines d.l = [] := by unfold stuckD; rw [decide_eq_true_iff, List.length_eq_zero_iff]
theorem step_facts {d : Dl} (h : d.okP) (ho : overD d = false) : mu (stepD d) < mu d ∧ ((stepD d).l.length : Int) + 3 * (if stuckD d = true then 0 else 1) - (stepD d).nx = d.l.length - d.nx ∧ (stepD d).s = d.s := by
  cases hl : lines d.l with
  | nil =>
    have hs : stuckD d = true := stuck_iff.2 hl
    have hn : d.nx < 81 := by
      have := h.2.1
      unfold overD at ho
      rw [hs, Bool.and_true] at ho
      have := of_decide_eq_false ho
      omega
    have e : stepD d = layD d 3 := by unfold stepD; rw [hl]
    have h1 := lay_len (d := d) (n := 3) h.2.1.1 h.2.1.2 (by omega)
    have h2 := endD_bd (d := d) (n := 3) h.2.1.2 (by omega)
    rw [e, if_pos hs]
    have e2 : (layD d 3).nx = endD d 3 := rfl
    unfold mu
    rw [e2, h1]
    refine ⟨by omega, by omega, rfl⟩
  | cons t r =>
    have hs : stuckD d = false := by
      cases hq : stuckD d
      · rfl
      · rw [stuck_iff.1 hq] at hl; cases hl
    have e : stepD d = takeD d t := by unfold stepD; rw [hl]
    have hm : isLn d.l t := (mem_lines h.2.2.2).1 (by rw [hl]; simp)
    have hk := keep_line hm
    have hnn := need_nn d.l t
    have h1 := lay_len (d := ⟨d.s, d.nx, keep d.l t d.l.length⟩) (n := needD d.l t) h.2.1.1 h.2.1.2 hnn.1
    have h2 := endD_bd (d := ⟨d.s, d.nx, keep d.l t d.l.length⟩) (n := needD d.l t) h.2.1.2 hnn.1
    rw [e, if_neg (by simp [hs])]
    have e2 : (takeD d t).nx = endD ⟨d.s, d.nx, keep d.l t d.l.length⟩ (needD d.l t) := rfl
    have e3 : (takeD d t).l.length = (layD ⟨d.s, d.nx, keep d.l t d.l.length⟩ (needD d.l t)).l.length := rfl
    unfold mu
    rw [e2, e3, h1]
    simp only at h2 ⊢
    refine ⟨by omega, by omega, rfl⟩
theorem tk_sum {d : Dl} (h : d.okP) : ∀ k, (∀ j, j < k → overD (stp d j) = false) → ((stp d k).l.length : Int) + 3 * tk d k - (stp d k).nx = d.l.length - d.nx ∧ (stp d k).s = d.s ∧ 0 ≤ tk d k ∧ tk d k ≤ k ∧ mu (stp d k) + k ≤ mu d
  | 0, _ => by simp [stp, tk]
  | k + 1, hno => by
    obtain ⟨h1, h2, h3, h4, h5⟩ := tk_sum h k (fun j hj => hno j (by omega))
    obtain ⟨g1, g2, g3⟩ := step_facts (stp_ok h k) (hno k (by omega))
    simp only [stp, tk]
    cases hq : stuckD (stp d k) <;> simp only [hq, if_true, Bool.false_eq_true, if_false] at g2 ⊢ <;> exact ⟨by omega, by rw [g3, h2], by omega, by omega, by omega⟩
/-- The step with which the deal is over. -/
def endAt (d : Dl) (K : Nat) : Prop := overD (stp d K) = true ∧ ∀ j, j < K → overD (stp d j) = false
theorem end_uniq {d : Dl} {K M : Nat} (h : endAt d K) (h' : endAt d M) : K = M := by
  rcases Nat.lt_trichotomy K M with hlt | e | hlt
  · have := h'.2 K hlt; rw [h.1] at this; cases this
  · exact e
  · have := h.2 M hlt; rw [h'.1] at this; cases this
theorem end_ex {d : Dl} (h : d.okP) : ∃ K, endAt d K := by
  have key : ∀ (n k : Nat), (∀ j, j < k → overD (stp d j) = false) → mu (stp d k) < n → ∃ K, endAt d K := by
    intro n
    induction n with
    | zero => intro k hk hm; have := mu_nn (stp_ok h k); omega
    | succ n ih =>
      intro k hk hm
      cases ho : overD (stp d k)
      · refine ih (k + 1) (fun j hj => ?_) ?_
        · rcases Nat.lt_or_ge j k with h1 | h1
          · exact hk j h1
          · rw [show j = k by omega]; exact ho
        · have := (step_facts (stp_ok h k) ho).1
          show mu (stepD (stp d k)) < _
          omega
      · exact ⟨k, ho, hk⟩
  exact key ((mu d).toNat + 1) 0 (fun j hj => by omega) (by show mu d < _; omega)
noncomputable def lastK (d : Dl) : Nat := @dite _ (∃ K, endAt d K) (Classical.propDecidable _) (fun h => Classical.choose h) (fun _ => 0)
theorem lastK_end {d : Dl} (h : d.okP) : endAt d (lastK d) := by
  have he := end_ex h
  unfold lastK
  rw [dif_pos he]
  exact Classical.choose_spec he
theorem third_ne {x y : Cd} (hx : x.ok = true) (hy : y.ok = true) (h : x ≠ y) : third x y ≠ y := fun e => h (by
  have h1 := third_third (y := y) hx
  rw [e, third_self hy] at h1
  exact h1.symm)
theorem no_ln {l : List Cd} (hd : l.Nodup) (h : lines l = []) {i j m : Nat} {x y z : Cd} (hi : l[i]? = some x) (hj : l[j]? = some y) (hm : l[m]? = some z) (h1 : i < j) (h2 : j < m) (hz : third x y = z) : False := by
  have hne : x ≠ y := fun e => by rw [e] at hi; exact absurd (nodup_at hd hi hj) (by omega)
  have := (mem_lines hd).2 ⟨i, j, m, x, y, z, h1, h2, hi, hj, hm, (line_iff hne).2 hz, rfl⟩
  rw [h] at this; simp at this
theorem stuck_cap {l : List Cd} (hd : l.Nodup) (hok : l.all Cd.ok = true) (h : lines l = []) : capP l := by
  intro x hx y hy hne hz
  have kx := List.all_eq_true.1 hok x hx
  have ky := List.all_eq_true.1 hok y hy
  obtain ⟨z, ez⟩ : ∃ z, third x y = z := ⟨_, rfl⟩
  rw [ez] at hz
  have n1 : z ≠ y := by rw [← ez]; exact third_ne kx ky hne
  have n2 : z ≠ x := by rw [← ez, third_sym]; exact third_ne ky kx (Ne.symm hne)
  obtain ⟨i, hi⟩ := List.mem_iff_getElem?.1 hx
  obtain ⟨j, hj⟩ := List.mem_iff_getElem?.1 hy
  obtain ⟨m, hm⟩ := List.mem_iff_getElem?.1 hz
  have d1 : i ≠ j := fun e => by rw [e, hj] at hi; injection hi with hi; exact hne hi.symm
  have d2 : m ≠ j := fun e => by rw [e, hj] at hm; injection hm with hm; exact n1 hm.symm
  have d3 : m ≠ i := fun e => by rw [e, hi] at hm; injection hm with hm; exact n2 hm.symm
  have eyx : third y x = z := by rw [third_sym]; exact ez
  have ezy : third z y = x := by rw [← ez]; exact third_third kx
  have eyz : third y z = x := by rw [third_sym]; exact ezy
  have ezx : third z x = y := by rw [← eyx]; exact third_third ky
  have exz : third x z = y := by rw [third_sym]; exact ezx
  rcases Nat.lt_or_gt_of_ne d1 with a | a <;> rcases Nat.lt_or_gt_of_ne d2 with b | b <;> rcases Nat.lt_or_gt_of_ne d3 with c | c
  · exact no_ln hd h hm hi hj c a ezx
  · exact no_ln hd h hi hm hj c b exz
  · omega
  · exact no_ln hd h hi hj hm a b ez
  · exact no_ln hd h hm hj hi b a ezy
  · omega
  · exact no_ln hd h hj hm hi b c eyz
  · exact no_ln hd h hj hi hm a c eyx
theorem new_facts {s : Int} : (newD s).nx = 12 ∧ (newD s).l.length = 12 ∧ (newD s).s = s := by
  have h := lay_len (d := ⟨s, 0, []⟩) (n := 12) (by simp) (by simp) (by omega)
  refine ⟨rfl, ?_, rfl⟩
  show (layD ⟨s, 0, []⟩ 12).l.length = 12
  simp only [endD] at h
  simp at h
  omega
/-- At last there are at most 27 cards. -/
theorem last_27 {s : Int} (h : 0 ≤ s ∧ s ≤ 65535) {K : Nat} (he : endAt (newD s) K) : (stp (newD s) K).l.length ≤ 27 ∧ ((stp (newD s) K).l.length : Int) + 3 * tk (newD s) K = 81 ∧ 0 ≤ tk (newD s) K ∧ tk (newD s) K ≤ K ∧ K ≤ 200 := by
  have ho := stp_ok (new_ok h) K
  obtain ⟨h1, h2, h3, h4, h5⟩ := tk_sum (new_ok h) K he.2
  obtain ⟨f1, f2, f3⟩ := new_facts (s := s)
  rw [f1, f2] at h1
  have hov := he.1
  unfold overD at hov
  rw [Bool.and_eq_true, decide_eq_true_iff] at hov
  have hc := cap_28 (stuck_cap ho.2.2.2 ho.cards (stuck_iff.1 hov.2)) ho.2.2.2 ho.cards
  have := mu_nn ho
  have e : mu (newD s) = 150 := by unfold mu; rw [f1, f2]; rfl
  omega

end Go.Proofs.Ytjanphcfflahkaa.deal
