/- All caps within a hand, as lists of places: what is visited, what is counted, which is the greatest. -/
import Derived.Test.YtcedbhgjabheaaaGm
namespace Go.Proofs.Ytcedbhgjabheaaa.cards
open Go.RowKit
set_option linter.unusedVariables false

/-- Does the card at i make no line with those at these places? -/
def fits (l : List Cd) (ps : List Int) (i : Nat) : Bool := match l[i]? with
  | some x => !decide (0 < thr (pick l ps) x (pick l ps).length)
  | none => false
/-- The lists that are made of ps by the last d places. -/
def tl (l : List Cd) : Nat → List Int → List (List Int)
  | 0, _ => []
  | d + 1, ps => (if fits l ps (l.length - (d + 1)) = true then (ps ++ [((l.length - (d + 1) : Nat) : Int)]) :: tl l d (ps ++ [((l.length - (d + 1) : Nat) : Int)]) else []) ++ tl l d ps
theorem tl_yes {l : List Cd} {ps : List Int} {k d : Nat} (hk : l.length = k + (d + 1)) (h : fits l ps k = true) : tl l (d + 1) ps = ((ps ++ [(k : Int)]) :: tl l d (ps ++ [(k : Int)])) ++ tl l d ps := by
  have e : l.length - (d + 1) = k := by omega
  rw [tl, e, if_pos h]
theorem tl_no {l : List Cd} {ps : List Int} {k d : Nat} (hk : l.length = k + (d + 1)) (h : fits l ps k = false) : tl l (d + 1) ps = tl l d ps := by
  have e : l.length - (d + 1) = k := by omega
  rw [tl, e, if_neg (by simp [h])]; rfl
/-- These places are places below k of a hand, in order. -/
structure Good (l : List Cd) (ps : List Int) (k : Nat) : Prop where
  sort : sorted (pick l ps)
  ok : (pick l ps).all Cd.ok = true
  lt : ∀ y ∈ pick l ps, ∀ i x, k ≤ i → l[i]? = some x → num y < num x
  ins : ∀ p ∈ ps, 0 ≤ p ∧ p < l.length
  len : (pick l ps).length = ps.length
  le : ps.length ≤ k
theorem Good.nil (l : List Cd) : Good l [] 0 := ⟨List.Pairwise.nil, rfl, fun y h => by simp [pick] at h, fun p h => by simp at h, rfl, Nat.le_refl _⟩
theorem Good.mono {l : List Cd} {ps : List Int} {k k' : Nat} (h : Good l ps k) (hk : k ≤ k') : Good l ps k' :=
  ⟨h.sort, h.ok, fun y hy i x hi hx => h.lt y hy i x (Nat.le_trans hk hi) hx, h.ins, h.len, Nat.le_trans h.le hk⟩
theorem Good.snoc {l : List Cd} {ps : List Int} {k : Nat} {x : Cd} (hs : sorted l) (hok : l.all Cd.ok = true) (h : Good l ps k) (hx : l[k]? = some x) : Good l (ps ++ [(k : Int)]) (k + 1) := by
  have hp := pick_snoc (ps := ps) hx
  have hk := (List.getElem?_eq_some_iff.1 hx).1
  refine ⟨?_, ?_, ?_, ?_, ?_, ?_⟩
  · rw [hp]
    unfold sorted
    rw [List.pairwise_append]
    refine ⟨h.sort, by simp, fun y hy z hz => ?_⟩
    simp at hz; subst hz
    exact h.lt y hy k _ (Nat.le_refl _) hx
  · rw [hp, List.all_append, h.ok]; simp [ok_at hok hx]
  · rw [hp]
    intro y hy i z hi hz
    rcases List.mem_append.1 hy with hy | hy
    · exact h.lt y hy i z (by omega) hz
    · simp at hy; subst hy
      exact sorted_lt hs (by omega) hx hz
  · intro p hp
    rcases List.mem_append.1 hp with hp | hp
    · exact h.ins p hp
    · simp at hp; omega
  · rw [hp, List.length_append, List.length_append, h.len]; rfl
  · have := h.le
    rw [List.length_append]; simp; omega
theorem tl_len {l : List Cd} : ∀ (d : Nat) (ps : List Int), ∀ q ∈ tl l d ps, q.length ≤ ps.length + d ∧ ps.length < q.length
  | 0, ps, q, h => by simp [tl] at h
  | d + 1, ps, q, h => by
    rw [tl] at h
    rcases List.mem_append.1 h with h | h
    · split at h
      · rcases List.mem_cons.1 h with rfl | h
        · simp
        · have := tl_len d _ q h
          simp at this; omega
      · simp at h
    · have := tl_len d ps q h
      omega

/-! ### Counting -/
def cf (N : Int) (s : Int) (ps : List Int) : Int := if (ps.length : Int) = N then s + 1 else s
/-- How many caps there are with m cards more, of the last d places. -/
def lp (l : List Cd) : Nat → List Int → Nat → Int
  | 0, _, _ => 0
  | d + 1, ps, m => (if fits l ps (l.length - (d + 1)) = true then (if m = 1 then 1 else lp l d (ps ++ [((l.length - (d + 1) : Nat) : Int)]) (m - 1)) else 0) + lp l d ps m
theorem lp_yes {l : List Cd} {ps : List Int} {k d m : Nat} (hk : l.length = k + (d + 1)) (h : fits l ps k = true) : lp l (d + 1) ps m = (if m = 1 then 1 else lp l d (ps ++ [(k : Int)]) (m - 1)) + lp l d ps m := by
  have e : l.length - (d + 1) = k := by omega
  rw [lp, e, if_pos h]
theorem lp_no {l : List Cd} {ps : List Int} {k d m : Nat} (hk : l.length = k + (d + 1)) (h : fits l ps k = false) : lp l (d + 1) ps m = lp l d ps m := by
  have e : l.length - (d + 1) = k := by omega
  rw [lp, e, if_neg (by simp [h])]; omega
theorem cf_long (N : Nat) {d : Nat} {l : List Cd} {ps : List Int} (h : N ≤ ps.length) (s : Int) : (tl l d ps).foldl (cf N) s = s := by
  have hall : ∀ q ∈ tl l d ps, ¬ (q.length : Int) = N := fun q hq => by have := tl_len d ps q hq; omega
  generalize tl l d ps = L at hall
  induction L with
  | nil => rfl
  | cons q r ih =>
    rw [List.foldl_cons, cf, if_neg (hall q (by simp))]
    exact ih (fun x hx => hall x (by simp [hx]))
theorem cf_all (N : Nat) {l : List Cd} : ∀ (d : Nat) (ps : List Int) (s : Int), d ≤ l.length → ps.length < N → (tl l d ps).foldl (cf N) s = s + lp l d ps (N - ps.length)
  | 0, ps, s, _, _ => by simp [tl, lp]
  | d + 1, ps, s, hd, h => by
    obtain ⟨k, hk⟩ : ∃ k, l.length = k + (d + 1) := ⟨l.length - (d + 1), by omega⟩
    cases hf : fits l ps k
    · rw [tl_no hk hf, lp_no hk hf]
      exact cf_all N d ps s (by omega) h
    · rw [tl_yes hk hf, lp_yes hk hf, List.foldl_append, List.foldl_cons]
      have hl : (ps ++ [(k : Int)]).length = ps.length + 1 := by simp
      by_cases h1 : N - ps.length = 1
      · rw [if_pos h1, cf, if_pos (by rw [hl]; omega), cf_long N (ps := ps ++ [(k : Int)]) (by rw [hl]; omega), cf_all N d ps _ (by omega) h]
        omega
      · rw [if_neg h1, cf, if_neg (by rw [hl]; omega), cf_all N d (ps ++ [(k : Int)]) s (by omega) (by rw [hl]; omega), cf_all N d ps _ (by omega) h, hl, show N - (ps.length + 1) = N - ps.length - 1 by omega]
        omega
theorem lp_nonneg {l : List Cd} : ∀ (d : Nat) (ps : List Int) (m : Nat), 0 ≤ lp l d ps m
  | 0, _, _ => by simp [lp]
  | d + 1, ps, m => by
    have h1 := lp_nonneg (l := l) d ps m
    have h2 := lp_nonneg (l := l) d (ps ++ [((l.length - (d + 1) : Nat) : Int)]) (m - 1)
    rw [lp]
    split <;> (try split) <;> omega

/-! ### The greatest one -/
def gf (b ps : List Int) : List Int := if b.length < ps.length then ps else b
theorem gf_first : ∀ (L : List (List Int)) (p b : List Int), (p :: L).foldl gf b = if b.length < (L.foldl gf p).length then L.foldl gf p else b
  | [], p, b => rfl
  | q :: r, p, b => by
    rw [List.foldl_cons]
    have h1 := gf_first r q (gf b p)
    have h2 := gf_first r q p
    rw [h1, h2]
    unfold gf
    by_cases hb : b.length < p.length
    · rw [if_pos hb]
      by_cases h3 : p.length < (r.foldl gf q).length
      · have h3' : p.length < (r.foldl (fun b ps => if b.length < ps.length then ps else b) q).length := h3
        rw [if_pos h3', if_pos (by omega)]
      · have h3' : ¬ p.length < (r.foldl (fun b ps => if b.length < ps.length then ps else b) q).length := h3
        rw [if_neg h3', if_pos hb]
    · rw [if_neg hb]
      by_cases h3 : p.length < (r.foldl gf q).length
      · have h3' : p.length < (r.foldl (fun b ps => if b.length < ps.length then ps else b) q).length := h3
        rw [if_pos h3']
      · have h3' : ¬ p.length < (r.foldl (fun b ps => if b.length < ps.length then ps else b) q).length := h3
        rw [if_neg h3', if_neg (by omega), if_neg hb]
/-- The greatest one of b and those that are made of ps by the last d places: the model's search. -/
def sr (l : List Cd) : Nat → List Int → List Int → List Int
  | 0, _, b => b
  | d + 1, ps, b => if b.length < ps.length + (d + 1) then sr l d ps (if fits l ps (l.length - (d + 1)) = true then gf b (sr l d (ps ++ [((l.length - (d + 1) : Nat) : Int)]) (ps ++ [((l.length - (d + 1) : Nat) : Int)])) else b) else b
theorem gf_short {d : Nat} {l : List Cd} {ps b : List Int} (h : ps.length + d ≤ b.length) : (tl l d ps).foldl gf b = b := by
  have hall : ∀ q ∈ tl l d ps, ¬ b.length < q.length := fun q hq => by have := tl_len d ps q hq; omega
  generalize tl l d ps = L at hall
  induction L with
  | nil => rfl
  | cons q r ih =>
    rw [List.foldl_cons, gf, if_neg (hall q (by simp))]
    exact ih (fun x hx => hall x (by simp [hx]))
theorem sr_all {l : List Cd} : ∀ (d : Nat) (ps b : List Int), d ≤ l.length → sr l d ps b = (tl l d ps).foldl gf b
  | 0, ps, b, _ => rfl
  | d + 1, ps, b, hd => by
    obtain ⟨k, hk⟩ : ∃ k, l.length = k + (d + 1) := ⟨l.length - (d + 1), by omega⟩
    have e : l.length - (d + 1) = k := by omega
    rw [sr, e]
    by_cases hb : b.length < ps.length + (d + 1)
    · rw [if_pos hb]
      cases hf : fits l ps k
      · rw [tl_no hk hf, if_neg (by simp)]
        exact sr_all d ps b (by omega)
      · rw [tl_yes hk hf, if_pos rfl, List.foldl_append, gf_first, sr_all d ps _ (by omega), sr_all d (ps ++ [(k : Int)]) _ (by omega)]
        rfl
    · rw [if_neg hb, gf_short (by omega)]
/-- The greatest cap's places. -/
def best (l : List Cd) : List Int := (tl l l.length []).foldl gf []
theorem foldl_len : ∀ (L : List (List Int)) (b : List Int) (N : Nat), b.length ≤ N → (∀ q ∈ L, q.length ≤ N) → (L.foldl gf b).length ≤ N
  | [], b, N, h, _ => h
  | q :: r, b, N, h, hq => by
    rw [List.foldl_cons]
    refine foldl_len r _ N ?_ (fun x hx => hq x (by simp [hx]))
    unfold gf
    split
    · exact hq q (by simp)
    · exact h
theorem best_len (l : List Cd) : (best l).length ≤ l.length := foldl_len _ _ _ (by simp) (fun q hq => by have := tl_len l.length [] q hq; simpa using this.1)
end Go.Proofs.Ytcedbhgjabheaaa.cards
