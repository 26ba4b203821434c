/- Cards that are appended: one, and all of another slice. -/
import Derived.Test.YtnibkipepmakgaaRx
import Derived.Laws.AppendOwnNone
namespace Go.Proofs.Ytnibkipepmakgaa.cards
open Go.RowKit
set_option linter.unusedVariables false

theorem flat_app (a b : List Cd) : flat (a ++ b) = flat a ++ flat b := by simp [flat]
theorem flat_take (l : List Cd) (k : Nat) : flat (l.take k) = (flat l).take (4 * k) := by
  induction l generalizing k with
  | nil => simp [flat]
  | cons x r ih =>
    cases k with
    | zero => simp [flat]
    | succ k =>
      rw [List.take_succ_cons, show 4 * (k + 1) = 4 * k + 1 + 1 + 1 + 1 by omega]
      show Value.int .i64 x.a :: .int .i64 x.b :: .int .i64 x.c :: .int .i64 x.d :: flat (r.take k) = _
      rw [ih]; rfl
theorem flat_drop (l : List Cd) (k : Nat) : flat (l.drop k) = (flat l).drop (4 * k) := by
  induction l generalizing k with
  | nil => simp [flat]
  | cons x r ih =>
    cases k with
    | zero => simp [flat]
    | succ k =>
      rw [List.drop_succ_cons, show 4 * (k + 1) = 4 * k + 1 + 1 + 1 + 1 by omega, ih]; rfl
/-- The first k cards lie at the same place. -/
theorem Rd.take {w : World} {p : Option Addr} {l : List Cd} (h : Rd w p (flat l)) (k : Nat) : Rd w p (flat (l.take k)) := fun hp => by
  rw [flat_take] at hp ⊢
  obtain ⟨b, o, e, hlt, hc⟩ := h (by rw [List.length_take] at hp; omega)
  refine ⟨b, o, e, hlt, fun j v hv => hc j v ?_⟩
  rw [List.getElem?_take] at hv
  split at hv
  · exact hv
  · cases hv
/-- The cards from k on lie four cells a card behind. -/
theorem Rd.drop {w : World} {b o : Nat} {l : List Cd} (h : Rd w (some ⟨b, o, none⟩) (flat l)) (k : Nat) : Rd w (some ⟨b, o + k * 4, none⟩) (flat (l.drop k)) := fun hp => by
  rw [flat_drop] at hp ⊢
  rw [List.length_drop] at hp
  obtain ⟨b', o', e, hlt, hc⟩ := h (by omega)
  injection e with e
  injection e with e1 e2
  subst e1; subst e2
  refine ⟨b, o + k * 4, rfl, hlt, fun j v hv => ?_⟩
  rw [List.getElem?_drop] at hv
  have := hc _ v hv
  rw [show o + k * 4 + j = o + (4 * k + j) by omega]; exact this
theorem Own.empty (w : World) (B : Nat) (hB : B ≤ w.heap.size) : Own (w.alloc (.cells #[] 54)) B (.slice (some ⟨w.heap.size, 0, none⟩) 0 0) [] :=
  ⟨rfl, .inr ⟨w.heap.size, 0, #[], rfl, hB, heap_alloc_new w _, Nat.le_refl _, by simp [maxLen], rfl, rfl⟩⟩
theorem Own.none_ (w : World) (B : Nat) : Own w B (.slice none 0 0) [] := ⟨rfl, .inl ⟨rfl, rfl⟩⟩
/-- One card is appended. -/
theorem append_cd {ops : Array Oper} {rest : List Oper} {o : Oper} {a : Act} {Q : Exit → Act → World → Prop} (hgd : o.guard = none) (s x : Operand)
    (ho : o.op = .call { callee := .builtin .append, args := #[s, x], argTypes := #[24, 24] }) (B : Nat) (v : Value) (l : List Cd) (q : Cd) (W : World) (g : Nat) (hg : W.heap.size = g)
    (hs : a.eval s = v) (hx : a.eval x = .slice (some ⟨g, 0, none⟩) 1 1) (hO : Own W B v l) (hl : l.length ≤ 1000000000) (hB : B ≤ W.heap.size)
    (h : ∀ v' w', Own w' B v' (l ++ [q]) → Below B W w' → wpList Try.prog ops Q rest (a.put o.dst v') w') : wpList Try.prog ops Q (o :: rest) a (W.alloc q.obj) := by
  subst hg
  obtain ⟨i, hi, hz, hsz, hb⟩ := info_parts a4info
  refine wpList_append_own (P := Try.prog) (W.alloc q.obj) hgd s x 24 ho B 54 i (.agg #[.int .i64 0, .int .i64 0, .int .i64 0, .int .i64 0]) 4 32 Try.underlying24 hi hz hsz hb rfl (by decide) v l.length (flat l) hs (hO.alloc _) ⟨W.heap.size, 0, none⟩ 1 1 q.cells hx rfl ?_ ?_ ?_ ?_ ?_ ?_
  · intro j u hu
    have hj : j < 4 := by have := (List.getElem?_eq_some_iff.1 hu).1; simpa [Cd.cells] using this
    have hadd : (⟨W.heap.size, 0, none⟩ : Addr).add j = ⟨W.heap.size, j, none⟩ := by
      unfold Addr.add; split <;> simp_all
    rw [hadd, cell_of_row _ _ j _ _ _ (heap_alloc_new W _)]
    rw [← hu]; simp [Cd.cells]
  · intro u hu; simp [Cd.cells] at hu; rcases hu with rfl | rfl | rfl | rfl <;> rfl
  · simp only [maxLen]; omega
  · omega
  · have : (W.alloc q.obj).heap.size = W.heap.size + 1 := by simp
    omega
  · intro v' w' h1 h2 _
    refine h v' w' ?_ (((Below.refl _ _).alloc hB _).grown h2 (by simp; omega) (fun k hk => (World.ownsRow.lt hO k hk).1))
    unfold Own
    rw [List.length_append]
    have e : flat (l ++ [q]) = flat l ++ q.cells := by simp [flat]
    rw [e]; exact h1
theorem flat_one : ∀ (l : List Cd), ∀ u ∈ flat l, u.oneCell' = true
  | [], u, h => by simp [flat] at h
  | x :: r, u, h => by
    have h' : u ∈ Value.int .i64 x.a :: .int .i64 x.b :: .int .i64 x.c :: .int .i64 x.d :: flat r := h
    simp only [List.mem_cons] at h'
    rcases h' with rfl | rfl | rfl | rfl | h'
    · rfl
    · rfl
    · rfl
    · rfl
    · exact flat_one r u h'
end Go.Proofs.Ytnibkipepmakgaa.cards
