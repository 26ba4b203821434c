/- Joined texts: what they are. -/
import Derived.Test.YtcjmlddpjbneiaaSu
namespace Go.Proofs.Ytcjmlddpjbneiaa.cards
open Go.RowKit
set_option linter.unusedVariables false

def sm : List ByteArray → Nat
  | [] => 0
  | x :: r => x.size + sm r
def anyB (l : List ByteArray) (b : UInt8) : Bool := l.any (hasB · b)
def jl (l : List ByteArray) (b : UInt8) : List UInt8 := Lib.join (l.map (·.data.toList)) [b]
def jT (l : List ByteArray) (b : UInt8) : ByteArray := ⟨(jl l b).toArray⟩
theorem lens_sm : ∀ l : List ByteArray, Lib.lens (l.map (·.data.toList)) = sm l
  | [] => rfl
  | x :: r => by
    have ih := lens_sm r
    simp only [Lib.lens, List.map_cons, List.sum_cons, List.map_map] at ih ⊢
    have e : x.data.toList.length = x.size := by show _ = x.data.size; rw [Array.length_toList]
    rw [sm, ← ih, e]
theorem jl_len {l : List ByteArray} (b : UInt8) (h : 0 < l.length) : (jl l b).length + 1 = sm l + l.length := by
  cases l with
  | nil => simp at h
  | cons x r =>
    unfold jl
    have e := lens_sm (x :: r)
    rw [List.map_cons] at e ⊢
    rw [Lib.join_length, e]
    simp; omega
theorem jT_size (l : List ByteArray) (b : UInt8) : (jT l b).size = (jl l b).length := by
  show (jl l b).toArray.size = _
  simp
theorem jT_one (x : ByteArray) (b : UInt8) : jT [x] b = x := by
  apply ByteArray.ext
  simp [jT, jl, Lib.join_one]
theorem jT_snoc {l : List ByteArray} (x : ByteArray) (b : UInt8) (h : 0 < l.length) : jT (l ++ [x]) b = jT l b ++ ⟨#[b]⟩ ++ x := by
  cases l with
  | nil => simp at h
  | cons y r =>
    apply ByteArray.ext
    apply Array.ext'
    simp [jT, jl, Lib.join_cons, Lib.joinTail]
theorem sm_snoc : ∀ (l : List ByteArray) (x : ByteArray), sm (l ++ [x]) = sm l + x.size
  | [], x => by simp [sm]
  | y :: r, x => by rw [List.cons_append, sm, sm, sm_snoc r x]; omega
theorem sm_take : ∀ (l : List ByteArray) (k : Nat), sm (l.take k) ≤ sm l
  | [], k => by simp
  | y :: r, 0 => by simp [sm]
  | y :: r, k + 1 => by have := sm_take r k; rw [List.take_succ_cons, sm, sm]; omega
theorem tk_snocB {l : List ByteArray} {k : Nat} {x : ByteArray} (h : l[k]? = some x) : l.take (k + 1) = l.take k ++ [x] := by
  rw [List.take_add_one, h]; rfl
theorem anyB_snoc (l : List ByteArray) (x : ByteArray) (b : UInt8) : anyB (l ++ [x]) b = (anyB l b || hasB x b) := by simp [anyB]
theorem anyB_has {l : List ByteArray} {x : ByteArray} {b : UInt8} (hx : x ∈ l) (h : hasB x b = true) : anyB l b = true := by
  unfold anyB
  rw [List.any_eq_true]; exact ⟨x, hx, h⟩
noncomputable def jR (l : List ByteArray) (b : UInt8) : ByteArray × Bool := if anyB l b = false ∧ sm l + l.length ≤ 4001 then (jT l b, true) else (⟨#[]⟩, false)
noncomputable def jsR (l : List ByteArray) (sep : ByteArray) : ByteArray × Bool := if 0 < l.length ∧ sep.size = 1 then jR l (sep.data.toList.headD 0) else (⟨#[]⟩, false)
theorem one_byte {s : ByteArray} (h : s.size = 1) : ∃ b : UInt8, s = ⟨#[b]⟩ := by
  obtain ⟨⟨l⟩⟩ := s
  match l, h with
  | [b], _ => exact ⟨b, rfl⟩
theorem jsR_no {l : List ByteArray} {s : ByteArray} (h : ¬ (0 < l.length ∧ s.size = 1)) : jsR l s = (⟨#[]⟩, false) := by unfold jsR; rw [if_neg h]
theorem jsR_yes {l : List ByteArray} {b : UInt8} (h : 0 < l.length) : jsR l ⟨#[b]⟩ = jR l b := by unfold jsR; rw [if_pos ⟨h, rfl⟩]; rfl
theorem jR_no {l : List ByteArray} {b : UInt8} (h : ¬ (anyB l b = false ∧ sm l + l.length ≤ 4001)) : jR l b = (⟨#[]⟩, false) := by unfold jR; rw [if_neg h]
theorem jR_yes {l : List ByteArray} {b : UInt8} (h : anyB l b = false) (h2 : sm l + l.length ≤ 4001) : jR l b = (jT l b, true) := by unfold jR; rw [if_pos ⟨h, h2⟩]
end Go.Proofs.Ytcjmlddpjbneiaa.cards
