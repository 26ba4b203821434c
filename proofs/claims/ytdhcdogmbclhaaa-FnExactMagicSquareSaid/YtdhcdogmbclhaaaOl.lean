/- SpacesWith: what both return. -/
import Derived.Test.YtdhcdogmbclhaaaOk
namespace Go.Proofs.Ytdhcdogmbclhaaa.planes
open Go.RowKit
open cards reg
set_option linter.unusedVariables false

theorem split_count (x : Cd) (j : Nat) : ∀ (l : List Cd) (f : Nat → Int), (l.foldl (fun f c => up3 f (valN c x)) f) j = f j + (l.countP fun c => decide (valN c x = j) : Nat)
  | [], f => by simp
  | c :: r, f => by
    rw [List.foldl_cons, split_count x j r, List.countP_cons]
    unfold up3
    by_cases h : valN c x = j
    · subst h; simp; omega
    · have h2 : ¬ j = valN c x := fun e => h e.symm
      simp [h, h2]
theorem splitF_count (x : Cd) (l : List Cd) (j : Nat) : splitF x l j = (l.countP fun c => decide (valN c x = j) : Nat) := by
  unfold splitF
  rw [split_count]; simp
/-- Have all cards of the list the same value by a weight? -/
def eqv (l : List Cd) (x : Cd) : Bool := l.all fun c => decide (valN c x = valN (l.getD 0 zero) x)
def mx (a b : Int) : Int := if b < a then a else b
theorem eqv_split (l : List Cd) (x : Cd) : decide (mx (splitF x l 0) (mx (splitF x l 1) (splitF x l 2)) = (l.length : Int)) = eqv l x := by
  have hle : ∀ j, splitF x l j ≤ l.length := fun j => by rw [splitF_count]; have := List.countP_le_length (p := fun c => decide (valN c x = j)) (l := l); omega
  have hall : ∀ j, splitF x l j = l.length ↔ ∀ c, c ∈ l → valN c x = j := fun j => by
    rw [splitF_count]
    have h := List.countP_eq_length (p := fun c => decide (valN c x = j)) (l := l)
    constructor
    · intro e; have e2 := h.1 (by omega); intro c hc; simpa using e2 c hc
    · intro e; have e2 := h.2 (fun c hc => by simpa using e c hc); omega
  have h0 := hle 0
  have h1 := hle 1
  have h2 := hle 2
  have ev : eqv l x = true ↔ ∀ c, c ∈ l → valN c x = valN (l.getD 0 zero) x := by
    unfold eqv; rw [List.all_eq_true]; simp
  rw [Bool.eq_iff_iff, decide_eq_true_eq, ev]
  constructor
  · intro hm
    have : splitF x l 0 = l.length ∨ splitF x l 1 = l.length ∨ splitF x l 2 = l.length := by
      unfold mx at hm
      by_cases a : splitF x l 2 < splitF x l 1
      · rw [if_pos a] at hm
        by_cases b : splitF x l 1 < splitF x l 0
        · rw [if_pos b] at hm; exact .inl hm
        · rw [if_neg b] at hm; exact .inr (.inl hm)
      · rw [if_neg a] at hm
        by_cases b : splitF x l 2 < splitF x l 0
        · rw [if_pos b] at hm; exact .inl hm
        · rw [if_neg b] at hm; exact .inr (.inr hm)
    have key : ∀ j, splitF x l j = l.length → ∀ c, c ∈ l → valN c x = valN (l.getD 0 zero) x := fun j hj c hc => by
      have hA := (hall j).1 hj
      have hd : l.getD 0 zero ∈ l := by
        cases l with
        | nil => cases hc
        | cons a r => simp
      rw [hA c hc, hA _ hd]
    rcases this with h | h | h
    · exact key 0 h
    · exact key 1 h
    · exact key 2 h
  · intro hA
    have h3 := valN_lt (l.getD 0 zero) x
    have hv := (hall (valN (l.getD 0 zero) x)).2 hA
    unfold mx
    rcases (show valN (l.getD 0 zero) x = 0 ∨ valN (l.getD 0 zero) x = 1 ∨ valN (l.getD 0 zero) x = 2 by omega) with e | e | e <;> rw [e] at hv <;> (split <;> (try split)) <;> omega
/-- The first k cards agree with the first one. -/
theorem eqv_no {l : List Cd} {x c : Cd} {k : Nat} (hc : l[k]? = some c) (h : valN c x ≠ valN (l.getD 0 zero) x) : eqv l x = false := by
  unfold eqv
  rw [List.all_eq_false]
  exact ⟨c, List.mem_of_getElem? hc, by rw [decide_eq_true_eq]; exact h⟩
theorem eqv_yes {l : List Cd} {x : Cd} (h : ∀ (k : Nat) (c : Cd), l[k]? = some c → valN c x = valN (l.getD 0 zero) x) : eqv l x = true := by
  unfold eqv
  rw [List.all_eq_true]
  intro c hc
  obtain ⟨k, hk⟩ := List.getElem?_of_mem hc
  simpa using h k c hk
noncomputable def swR (l : List Cd) : List Cd × Bool := if handB l = true then (wts.filter (eqv l), true) else ([], false)
theorem swR_len (l : List Cd) : (swR l).1.length ≤ 100000000 := by
  unfold swR
  split
  · exact Nat.le_trans (List.length_filter_le _ _) (Nat.le_trans wts_le (by omega))
  · simp
theorem filter_yes {P : Cd → Bool} {ws : List Cd} {k : Nat} {x : Cd} (hx : ws[k]? = some x) (h : P x = true) : (ws.take (k + 1)).filter P = (ws.take k).filter P ++ [x] := by
  rw [take_snoc hx, List.filter_append]; simp [h]
theorem filter_no {P : Cd → Bool} {ws : List Cd} {k : Nat} {x : Cd} (hx : ws[k]? = some x) (h : P x = false) : (ws.take (k + 1)).filter P = (ws.take k).filter P := by
  rw [take_snoc hx, List.filter_append]; simp [h]
theorem exec_neqI {a : Act} {o : Oper} {p q : Operand} {s : TypeId} {u v : Int} (ho : o.op = .binOp .neq 3 p q s) (hp : a.eval p = .int .i64 u) (hq : a.eval q = .int .i64 v) (w : World) :
    (execOp a.eval o).run Try.prog w = .ok (.value (.bool (u != v))) w := by
  unfold execOp
  rw [ho]
  simp only [hp, hq]
  go_simp
end Go.Proofs.Ytdhcdogmbclhaaa.planes
