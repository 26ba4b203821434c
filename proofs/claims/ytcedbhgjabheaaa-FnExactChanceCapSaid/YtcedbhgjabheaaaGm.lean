/- The cap that is found in order: its places, and its cards. -/
import Derived.Test.YtcedbhgjabheaaaAn
namespace Go.Proofs.Ytcedbhgjabheaaa.cards
open Go.RowKit
set_option linter.unusedVariables false

/-- The cards at these places. -/
def pick (l : List Cd) (ps : List Int) : List Cd := ps.filterMap fun p => l[p.toNat]?
theorem pick_nil (l : List Cd) : pick l [] = [] := rfl
theorem pick_snoc {l : List Cd} {ps : List Int} {k : Nat} {x : Cd} (hx : l[k]? = some x) : pick l (ps ++ [(k : Int)]) = pick l ps ++ [x] := by
  unfold pick
  rw [List.filterMap_append]
  congr 1
  simp [hx]
/-- The places that are taken of the first k cards. -/
def gr (l : List Cd) : Nat → List Int
  | 0 => []
  | k + 1 => match l[k]? with
    | some x => if thr (pick l (gr l k)) x (pick l (gr l k)).length = 0 then gr l k ++ [(k : Int)] else gr l k
    | none => gr l k
def tk (l : List Cd) (k : Nat) : List Cd := pick l (gr l k)
theorem gr_yes {l : List Cd} {k : Nat} {x : Cd} (hx : l[k]? = some x) (h : thr (tk l k) x (tk l k).length = 0) : gr l (k + 1) = gr l k ++ [(k : Int)] := by
  unfold tk at h
  rw [gr, hx]; simp only; rw [if_pos h]
theorem gr_no {l : List Cd} {k : Nat} {x : Cd} (hx : l[k]? = some x) (h : thr (tk l k) x (tk l k).length ≠ 0) : gr l (k + 1) = gr l k := by
  unfold tk at h
  rw [gr, hx]; simp only; rw [if_neg h]
theorem tk_yes {l : List Cd} {k : Nat} {x : Cd} (hx : l[k]? = some x) (h : thr (tk l k) x (tk l k).length = 0) : tk l (k + 1) = tk l k ++ [x] := by
  rw [tk, gr_yes hx h, pick_snoc hx]; rfl
theorem tk_no {l : List Cd} {k : Nat} {x : Cd} (hx : l[k]? = some x) (h : thr (tk l k) x (tk l k).length ≠ 0) : tk l (k + 1) = tk l k := by
  rw [tk, gr_no hx h]; rfl
theorem tk_sub (l : List Cd) : ∀ k : Nat, k ≤ l.length → List.Sublist (tk l k) (l.take k)
  | 0, _ => by simp [tk, gr, pick]
  | k + 1, h => by
    have ih := tk_sub l k (by omega)
    have hx : l[k]? = some l[k] := List.getElem?_eq_getElem (by omega)
    rw [take_snoc hx]
    by_cases ht : thr (tk l k) l[k] (tk l k).length = 0
    · rw [tk_yes hx ht]; exact List.Sublist.append ih (List.Sublist.refl _)
    · rw [tk_no hx ht]; exact ih.trans (List.sublist_append_left _ _)
theorem tk_sorted {l : List Cd} (hs : sorted l) {k : Nat} (hk : k ≤ l.length) : sorted (tk l k) := List.Pairwise.sublist ((tk_sub l k hk).trans (List.take_sublist k l)) hs
theorem tk_ok {l : List Cd} (hok : l.all Cd.ok = true) {k : Nat} (hk : k ≤ l.length) : (tk l k).all Cd.ok = true := by
  rw [List.all_eq_true] at hok ⊢
  exact fun x hx => hok x (((tk_sub l k hk).trans (List.take_sublist k l)).mem hx)
theorem tk_len {l : List Cd} {k : Nat} (hk : k ≤ l.length) : (tk l k).length ≤ k := by
  have := (tk_sub l k hk).length_le
  rw [List.length_take] at this; omega
/-- The places are places of the hand. -/
theorem gr_in (l : List Cd) : ∀ k : Nat, k ≤ l.length → ∀ p ∈ gr l k, 0 ≤ p ∧ p < l.length
  | 0, _, p, h => by simp [gr] at h
  | k + 1, hk, p, h => by
    have ih := gr_in l k (by omega)
    have hx : l[k]? = some l[k] := List.getElem?_eq_getElem (by omega)
    by_cases ht : thr (tk l k) l[k] (tk l k).length = 0
    · rw [gr_yes hx ht] at h
      rcases List.mem_append.1 h with h | h
      · exact ih p h
      · simp at h; omega
    · rw [gr_no hx ht] at h; exact ih p h
theorem gr_len (l : List Cd) : ∀ k : Nat, k ≤ l.length → (gr l k).length ≤ k
  | 0, _ => by simp [gr]
  | k + 1, hk => by
    have ih := gr_len l k (by omega)
    have hx : l[k]? = some l[k] := List.getElem?_eq_getElem (by omega)
    by_cases ht : thr (tk l k) l[k] (tk l k).length = 0
    · rw [gr_yes hx ht, List.length_append]; simp; omega
    · rw [gr_no hx ht]; omega
theorem pick_take_snoc {l : List Cd} {ps : List Int} {i : Nat} {p : Int} {x : Cd} (hp : ps[i]? = some p) (hx : l[p.toNat]? = some x) : pick l (ps.take (i + 1)) = pick l (ps.take i) ++ [x] := by
  rw [take_snoc hp]
  unfold pick
  rw [List.filterMap_append]
  congr 1
  simp [hx]
theorem pick_len (l : List Cd) (ps : List Int) : (pick l ps).length ≤ ps.length := List.length_filterMap_le _ _
end Go.Proofs.Ytcedbhgjabheaaa.cards
