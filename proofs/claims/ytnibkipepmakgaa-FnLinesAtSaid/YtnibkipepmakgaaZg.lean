/- A line appended, with the place of the new slice; slices of a list of lines. -/
import Derived.Test.YtnibkipepmakgaaAt
import Derived.Test.YtnibkipepmakgaaR3
namespace Go.Proofs.Ytnibkipepmakgaa.cards
open Go.RowKit
set_option linter.unusedVariables false

theorem OwnA3.past {w w1 : World} {B : Nat} {v u : Value} {l : List A3} (h : OwnA3 w B v l) (hg : w.grownBy w1 u.ownBlock) (ha : Ap u v) : OwnA3 w1 B v l :=
  World.ownsRow.kept h hg (by
    cases hv : v.ownBlock with
    | none => exact .inl rfl
    | some g => exact .inr (fun e => ha g e.symm hv))
theorem append_A3_at {ops : Array Oper} {rest : List Oper} {o : Oper} {a : Act} {Q : Exit → Act → World → Prop} (hgd : o.guard = none) (s x : Operand)
    (ho : o.op = .call { callee := .builtin .append, args := #[s, x], argTypes := #[27, 27] }) (B : Nat) (v : Value) (l : List A3) (q : A3) (W : World) (g : Nat) (hg : W.heap.size = g)
    (hs : a.eval s = v) (hx : a.eval x = .slice (some ⟨g, 0, none⟩) 1 1) (hO : OwnA3 W B v l) (hl : l.length ≤ 1000000000) (hB : B ≤ W.heap.size)
    (h : ∀ v' w', OwnA3 w' B v' (l ++ [q]) → Below B W w' → W.grownBy w' v.ownBlock → (v'.ownBlock = v.ownBlock ∨ v'.ownBlock = some (W.heap.size + 1)) → wpList Try.prog ops Q rest (a.put o.dst v') w') : wpList Try.prog ops Q (o :: rest) a (W.alloc q.obj) := by
  subst hg
  obtain ⟨i, hi, hz, hsz, hb⟩ := info_parts A3.info
  have he : (W.alloc q.obj).heap.size = W.heap.size + 1 := by simp
  refine wpList_append_own_at (P := Try.prog) (W.alloc q.obj) hgd s x 27 ho B 46 i (.agg #[.int .i64 0, .int .i64 0, .int .i64 0]) 3 24 Try.underlying27 hi hz hsz hb rfl (by decide) v l.length (A3.flat l) hs (hO.alloc _) ⟨W.heap.size, 0, none⟩ 1 1 q.cells hx rfl ?_ ?_ ?_ ?_ ?_ ?_
  · intro j u hu
    have hj : j < 3 := by have := (List.getElem?_eq_some_iff.1 hu).1; simpa [A3.cells] using this
    have hadd : (⟨W.heap.size, 0, none⟩ : Addr).add j = ⟨W.heap.size, j, none⟩ := by
      unfold Addr.add; split <;> simp_all
    rw [hadd, cell_of_row _ _ j _ _ _ (heap_alloc_new W _)]
    rw [← hu]; simp [A3.cells]
  · intro u hu; simp [A3.cells] at hu; rcases hu with rfl | rfl | rfl <;> rfl
  · simp only [maxLen]; omega
  · omega
  · omega
  · intro v' w' h1 h2 _ h4
    refine h v' w' ?_ (((Below.refl _ _).alloc hB _).grown h2 (by simp; omega) (fun k hk => (World.ownsRow.lt hO k hk).1)) ((World.grownBy_alloc W _ _).trans h2) (by rw [he] at h4; exact h4)
    unfold OwnA3
    rw [List.length_append]
    have e : A3.flat (l ++ [q]) = A3.flat l ++ q.cells := by simp [A3.flat]
    rw [e]; exact h1
theorem A3.flat_take (l : List A3) (k : Nat) : A3.flat (l.take k) = (A3.flat l).take (3 * k) := by
  induction l generalizing k with
  | nil => simp [A3.flat]
  | cons x r ih =>
    cases k with
    | zero => simp [A3.flat]
    | succ k =>
      have e : A3.flat (x :: r) = x.cells ++ A3.flat r := rfl
      have e2 : A3.flat (x :: r.take k) = x.cells ++ A3.flat (r.take k) := rfl
      rw [List.take_succ_cons, e2, ih k, e, show 3 * (k + 1) = x.cells.length + 3 * k by simp [A3.cells]; omega, List.take_length_add_append]
theorem A3.flat_drop (l : List A3) (k : Nat) : A3.flat (l.drop k) = (A3.flat l).drop (3 * k) := by
  induction l generalizing k with
  | nil => simp [A3.flat]
  | cons x r ih =>
    cases k with
    | zero => simp [A3.flat]
    | succ k =>
      have e : A3.flat (x :: r) = x.cells ++ A3.flat r := rfl
      rw [List.drop_succ_cons, ih k, e, show 3 * (k + 1) = x.cells.length + 3 * k by simp [A3.cells]; omega, List.drop_length_add_append]
theorem Rd.takeA3 {w : World} {p : Option Addr} {l : List A3} (h : Rd w p (A3.flat l)) (k : Nat) : Rd w p (A3.flat (l.take k)) := fun hp => by
  rw [A3.flat_take] at hp ⊢
  obtain ⟨b, o, e, hlt, hc⟩ := h (by rw [List.length_take] at hp; omega)
  refine ⟨b, o, e, hlt, fun j v hv => hc j v ?_⟩
  rw [List.getElem?_take] at hv
  split at hv
  · exact hv
  · cases hv
theorem Rd.dropA3 {w : World} {b o : Nat} {l : List A3} (h : Rd w (some ⟨b, o, none⟩) (A3.flat l)) (k : Nat) : Rd w (some ⟨b, o + k * 3, none⟩) (A3.flat (l.drop k)) := fun hp => by
  rw [A3.flat_drop] at hp ⊢
  rw [List.length_drop] at hp
  obtain ⟨b', o', e, hlt, hc⟩ := h (by omega)
  injection e with e
  injection e with e1 e2
  subst e1; subst e2
  refine ⟨_, _, rfl, hlt, fun j v hv => ?_⟩
  rw [List.getElem?_drop] at hv
  have := hc _ v hv
  rw [show o + k * 3 + j = o + (3 * k + j) by omega]
  exact this
end Go.Proofs.Ytnibkipepmakgaa.cards
