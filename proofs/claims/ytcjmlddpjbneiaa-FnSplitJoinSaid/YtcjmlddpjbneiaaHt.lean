/- HandText: texts of hands, what they are. -/
import Derived.Test.YtcjmlddpjbneiaaTp
import Derived.Lib.Join
namespace Go.Proofs.Ytcjmlddpjbneiaa.cards
open Go.RowKit
set_option linter.unusedVariables false

/-- The text of a hand, as bytes. -/
def jn (l : List Cd) : List UInt8 := Lib.join ((l.map txt).map (·.data.toList)) [32]
def hT (l : List Cd) : ByteArray := ⟨(jn l).toArray⟩
def sepT : List Cd → ByteArray
  | [] => ⟨#[]⟩
  | _ :: _ => ⟨#[32]⟩
theorem txt_size (x : Cd) : (txt x).size = 4 := rfl
theorem jn_snoc (l : List Cd) (x : Cd) : jn (l ++ [x]) = jn l ++ (sepT l).data.toList ++ (txt x).data.toList := by
  cases l with
  | nil => simp [jn, sepT, Lib.join_one, Lib.join_nil]
  | cons y r => simp [jn, sepT, Lib.join_cons, Lib.joinTail]
theorem hT_snoc (l : List Cd) (x : Cd) : hT (l ++ [x]) = hT l ++ sepT l ++ txt x := by
  apply ByteArray.ext
  unfold hT
  rw [jn_snoc]
  apply Array.ext'
  simp
theorem jn_len : ∀ (l : List Cd), (jn l).length ≤ 5 * l.length
  | [] => by simp [jn, Lib.join_nil]
  | y :: r => by
    unfold jn
    rw [List.map_cons, List.map_cons, Lib.join_length]
    have h : ∀ L : List Cd, Lib.lens ((L.map txt).map (·.data.toList)) = 4 * L.length := by
      intro L
      induction L with
      | nil => rfl
      | cons z s ih =>
        simp [Lib.lens] at ih ⊢
        have : (txt z).size = 4 := rfl
        omega
    have h2 := h (y :: r)
    rw [List.map_cons, List.map_cons] at h2
    rw [h2]
    simp
    omega
theorem hT_size (l : List Cd) : (hT l).size ≤ 5 * l.length := by
  have := jn_len l
  show (jn l).toArray.size ≤ _
  simpa using this
noncomputable def htR (l : List Cd) : ByteArray × Bool := if handB l = true then (hT l, true) else (⟨#[]⟩, false)
end Go.Proofs.Ytcjmlddpjbneiaa.cards
