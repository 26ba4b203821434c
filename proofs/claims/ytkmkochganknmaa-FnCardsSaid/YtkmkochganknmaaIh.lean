/- What a hand is: the program's and the model's test. -/
import Derived.Test.YtkmkochganknmaaPl
import Derived.Test.YtkmkochganknmaaRx
namespace Go.Proofs.Ytkmkochganknmaa.cards
open Go.RowKit
set_option linter.unusedVariables false

theorem in_yes (a lo hi : Int) (w : World) (h0 : lo ≤ a) (h1 : a ≤ hi) : Calls Try.prog 40 #[.int .i64 a, .int .i64 lo, .int .i64 hi] w fun e w' => e = .returned (.bool true) ∧ w = w' := by
  go_enter Try.func40, Try.ntmps40
  go_wp2
  go_ret
  exact ⟨ret_bool (by simp), rfl⟩
theorem in_no (a lo hi : Int) (w : World) (h : a < lo ∨ hi < a) : Calls Try.prog 40 #[.int .i64 a, .int .i64 lo, .int .i64 hi] w fun e w' => e = .returned (.bool false) ∧ w = w' := by
  rcases h with h | h
  · go_enter Try.func40, Try.ntmps40
    go_wp2
    go_ret
    exact ⟨rfl, rfl⟩
  · have hd : decide (a ≤ hi) = false := by simp; omega
    have HD := Lib.hid hd
    clear hd
    go_enter Try.func40, Try.ntmps40
    go_wp2
    all_goals go_ret
    all_goals first | exact ⟨ret_bool HD.out, rfl⟩ | exact ⟨rfl, rfl⟩

/-- Is a list a hand? -/
def upTo (l : List Cd) (k : Nat) : Prop := ∀ i x, i < k → l[i]? = some x → x.ok = true ∧ ∀ y, l[i + 1]? = some y → i + 1 < k → num x < num y
def isHand (l : List Cd) : Prop := l.length ≤ 27 ∧ l.all Cd.ok = true ∧ sorted l
noncomputable def handB (l : List Cd) : Bool := @decide (isHand l) (Classical.propDecidable _)
theorem handB_true {l : List Cd} : handB l = true ↔ isHand l := by simp [handB]
theorem handB_false {l : List Cd} : handB l = false ↔ ¬ isHand l := by simp [handB]
theorem sorted_of {l : List Cd} (h : ∀ i x y, l[i]? = some x → l[i + 1]? = some y → num x < num y) : sorted l := by
  unfold sorted
  rw [List.pairwise_iff_getElem]
  intro i j hi hj hij
  induction j with
  | zero => omega
  | succ j ih =>
    have h1 := h j l[j] l[j + 1] (List.getElem?_eq_getElem (by omega)) (List.getElem?_eq_getElem hj)
    rcases Nat.lt_or_ge i j with h2 | h2
    · have := ih (by omega) h2; omega
    · obtain rfl : i = j := by omega
      exact h1
theorem hand_of {l : List Cd} (h27 : l.length ≤ 27) (h : upTo l l.length) : isHand l := by
  refine ⟨h27, ?_, ?_⟩
  · rw [List.all_eq_true]
    intro x hx
    obtain ⟨i, hi, rfl⟩ := List.mem_iff_getElem.1 hx
    exact (h i l[i] hi (List.getElem?_eq_getElem hi)).1
  · refine sorted_of fun i x y hx hy => ?_
    have hi := (List.getElem?_eq_some_iff.1 hx).1
    have hj := (List.getElem?_eq_some_iff.1 hy).1
    exact (h i x hi hx).2 y hy hj
theorem not_hand_bad {l : List Cd} {i : Nat} {x : Cd} (hx : l[i]? = some x) (h : x.ok = false) : ¬ isHand l := fun hh => by
  have := List.all_eq_true.1 hh.2.1 x (List.mem_of_getElem? hx)
  rw [h] at this; cases this
theorem not_hand_order {l : List Cd} {i : Nat} {x y : Cd} (hx : l[i]? = some x) (hy : l[i + 1]? = some y) (h : ¬ num x < num y) : ¬ isHand l := fun hh => h (sorted_lt hh.2.2 (Nat.lt_succ_self i) hx hy)
theorem num_bd {x : Cd} (h : x.ok = true) : 0 ≤ num x ∧ num x ≤ 80 := by
  obtain ⟨⟨x1, x2⟩, ⟨x3, x4⟩, ⟨x5, x6⟩, x7, x8⟩ := Cd.bd h
  unfold num; omega

theorem ok_at {l : List Cd} {i : Nat} {x : Cd} (h : l.all Cd.ok = true) (hx : l[i]? = some x) : x.ok = true := List.all_eq_true.1 h x (List.mem_of_getElem? hx)

end Go.Proofs.Ytkmkochganknmaa.cards
