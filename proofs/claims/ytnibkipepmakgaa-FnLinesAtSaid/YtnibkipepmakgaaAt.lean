/- Appends of one number, of one card, that say where the new slice lies. -/
import Derived.Test.YtnibkipepmakgaaAp
import Derived.Test.YtnibkipepmakgaaIs
import Derived.Maps.AppendAt
namespace Go.Proofs.Ytnibkipepmakgaa.cards
open Go.RowKit
set_option linter.unusedVariables false

/-- Two slices in different blocks. -/
def Ap (a b : Value) : Prop := ∀ g, a.ownBlock = some g → b.ownBlock = some g → False
theorem Ap.symm {a b : Value} (h : Ap a b) : Ap b a := fun g h1 h2 => h g h2 h1
theorem Ap.next {a a' b : Value} {N : Nat} (h : Ap a b) (hb : ∀ g, b.ownBlock = some g → g < N) (ha : a'.ownBlock = a.ownBlock ∨ a'.ownBlock = some N) : Ap a' b := fun g h1 h2 => by
  rcases ha with e | e
  · rw [e] at h1; exact h g h1 h2
  · rw [e] at h1; injection h1 with h1; have := hb g h2; omega
theorem OwnI.past {w w1 : World} {B : Nat} {v u : Value} {l : List Int} (h : OwnI w B v l) (hg : w.grownBy w1 u.ownBlock) (ha : Ap u v) : OwnI w1 B v l :=
  World.ownsRow.kept h hg (by
    cases hv : v.ownBlock with
    | none => exact .inl rfl
    | some g => exact .inr (fun e => ha g e.symm hv))
theorem Own.past {w w1 : World} {B : Nat} {v u : Value} {l : List Cd} (h : Own w B v l) (hg : w.grownBy w1 u.ownBlock) (ha : Ap u v) : Own w1 B v l :=
  World.ownsRow.kept h hg (by
    cases hv : v.ownBlock with
    | none => exact .inl rfl
    | some g => exact .inr (fun e => ha g e.symm hv))
theorem Box.past {w w1 : World} {g : Nat} {x : Cd} {u : Value} (h : Box w g x) (hg : w.grownBy w1 u.ownBlock) (ha : ∀ k, u.ownBlock = some k → k ≠ g) : Box w1 g x :=
  (hg.block g h.lt (fun e => ha g e.symm rfl)).trans h
theorem append_int_at {ops : Array Oper} {rest : List Oper} {o : Oper} {a : Act} {Q : Exit → Act → World → Prop} (hgd : o.guard = none) (s x : Operand)
    (ho : o.op = .call { callee := .builtin .append, args := #[s, x], argTypes := #[30, 30] }) (B : Nat) (v : Value) (l : List Int) (q : Int) (W : World) (g : Nat) (hg : W.heap.size = g)
    (hs : a.eval s = v) (hx : a.eval x = .slice (some ⟨g, 0, none⟩) 1 1) (hO : OwnI W B v l) (hl : l.length ≤ 1000000000) (hB : B ≤ W.heap.size)
    (h : ∀ v' w', OwnI w' B v' (l ++ [q]) → Below B W w' → W.grownBy w' v.ownBlock → (v'.ownBlock = v.ownBlock ∨ v'.ownBlock = some (W.heap.size + 1)) → wpList Try.prog ops Q rest (a.put o.dst v') w') : wpList Try.prog ops Q (o :: rest) a (W.alloc (.cells #[.int .i64 q] 3)) := by
  subst hg
  obtain ⟨i, hi, hz, hsz, hb⟩ := info_parts int_info
  have he : (W.alloc (.cells #[.int .i64 q] 3)).heap.size = W.heap.size + 1 := by simp
  refine wpList_append_own_at (P := Try.prog) (W.alloc (.cells #[.int .i64 q] 3)) hgd s x 30 ho B 3 i (.int .i64 0) 1 8 Try.underlying30 hi hz hsz hb rfl (by decide) v l.length (ints l) hs (hO.alloc _) ⟨W.heap.size, 0, none⟩ 1 1 [.int .i64 q] hx rfl ?_ ?_ ?_ ?_ ?_ ?_
  · intro j u hu
    have hj : j = 0 := by have := (List.getElem?_eq_some_iff.1 hu).1; simp at this; omega
    subst hj
    rw [show u = .int .i64 q by simpa using hu.symm]
    exact (cell_of_row _ _ 0 _ _ _ (heap_alloc_new W _)).trans rfl
  · intro u hu; simp at hu; subst hu; rfl
  · simp only [maxLen]; omega
  · omega
  · omega
  · intro v' w' h1 h2 _ h4
    refine h v' w' ?_ (((Below.refl _ _).alloc hB _).grown h2 (by omega) (fun k hk => (World.ownsRow.lt hO k hk).1)) ((World.grownBy_alloc W _ _).trans h2) (by rw [he] at h4; exact h4)
    unfold OwnI
    rw [List.length_append]
    have e : ints (l ++ [q]) = ints l ++ [.int .i64 q] := by simp [ints]
    rw [e]; exact h1
theorem append_cd_at {ops : Array Oper} {rest : List Oper} {o : Oper} {a : Act} {Q : Exit → Act → World → Prop} (hgd : o.guard = none) (s x : Operand)
    (ho : o.op = .call { callee := .builtin .append, args := #[s, x], argTypes := #[24, 24] }) (B : Nat) (v : Value) (l : List Cd) (q : Cd) (W : World) (g : Nat) (hg : W.heap.size = g)
    (hs : a.eval s = v) (hx : a.eval x = .slice (some ⟨g, 0, none⟩) 1 1) (hO : Own W B v l) (hl : l.length ≤ 1000000000) (hB : B ≤ W.heap.size)
    (h : ∀ v' w', Own w' B v' (l ++ [q]) → Below B W w' → W.grownBy w' v.ownBlock → (v'.ownBlock = v.ownBlock ∨ v'.ownBlock = some (W.heap.size + 1)) → wpList Try.prog ops Q rest (a.put o.dst v') w') : wpList Try.prog ops Q (o :: rest) a (W.alloc q.obj) := by
  subst hg
  obtain ⟨i, hi, hz, hsz, hb⟩ := info_parts a4info
  have he : (W.alloc q.obj).heap.size = W.heap.size + 1 := by simp
  refine wpList_append_own_at (P := Try.prog) (W.alloc q.obj) hgd s x 24 ho B 54 i (.agg #[.int .i64 0, .int .i64 0, .int .i64 0, .int .i64 0]) 4 32 Try.underlying24 hi hz hsz hb rfl (by decide) v l.length (flat l) hs (hO.alloc _) ⟨W.heap.size, 0, none⟩ 1 1 q.cells hx rfl ?_ ?_ ?_ ?_ ?_ ?_
  · intro j u hu
    have hj : j < 4 := by have := (List.getElem?_eq_some_iff.1 hu).1; simpa [Cd.cells] using this
    have hadd : (⟨W.heap.size, 0, none⟩ : Addr).add j = ⟨W.heap.size, j, none⟩ := by
      unfold Addr.add; split <;> simp_all
    rw [hadd, cell_of_row _ _ j _ _ _ (heap_alloc_new W _)]
    rw [← hu]; simp [Cd.cells]
  · intro u hu; simp [Cd.cells] at hu; rcases hu with rfl | rfl | rfl | rfl <;> rfl
  · simp only [maxLen]; omega
  · omega
  · omega
  · intro v' w' h1 h2 _ h4
    refine h v' w' ?_ (((Below.refl _ _).alloc hB _).grown h2 (by omega) (fun k hk => (World.ownsRow.lt hO k hk).1)) ((World.grownBy_alloc W _ _).trans h2) (by rw [he] at h4; exact h4)
    unfold Own
    rw [List.length_append]
    have e : flat (l ++ [q]) = flat l ++ q.cells := by simp [flat]
    rw [e]; exact h1
end Go.Proofs.Ytnibkipepmakgaa.cards
