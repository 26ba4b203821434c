/- One card is appended: what the old slice read it still reads. -/
import Derived.Test.YtjanphcfflahkaaAt
namespace Go.Proofs.Ytjanphcfflahkaa.cards
open Go.RowKit
set_option linter.unusedVariables false

theorem run_keep (W : World) (ty : TypeId) (B n cap : Nat) (p : Option Addr) (l : List Cd) (q : Cd) (ad : Addr) (hn : l.length = n) (hO : Own W B (.slice p n cap) l) (hnews : ∀ j u, q.cells[j]? = some u → W.cell? (ad.add j) = some u) (hl : n ≤ 1000000000) (hB : B ≤ W.heap.size) :
    ∃ v' w', (Builtin.append_ #[29, 29] ty #[.slice p n cap, .slice (some ad) 1 1]).run Try.prog W = .ok v' w' ∧ Own w' B v' (l ++ [q]) ∧ W.grownBy w' (Value.slice p n cap).ownBlock ∧
      (v'.ownBlock = (Value.slice p n cap).ownBlock ∨ v'.ownBlock = some W.heap.size) ∧ Rd w' p (flat l) := by
  subst hn
  obtain ⟨i, hi, hz, hsz, hb⟩ := info_parts a4info
  have h1 : ∀ u ∈ q.cells, u.oneCell' = true := by intro u hu; simp [Cd.cells] at hu; rcases hu with rfl | rfl | rfl | rfl <;> rfl
  obtain ⟨v', w', hr, g1, g2, _, g4⟩ := run_append_own_at (P := Try.prog) W B 29 ty 22 i (.agg #[.int .i64 0, .int .i64 0, .int .i64 0, .int .i64 0]) 4 32 Try.underlying29 hi hz hsz hb rfl (by decide) (.slice p l.length cap) l.length (flat l) hO ad 1 1 q.cells rfl hnews h1 (by simp only [maxLen]; omega) (by omega) hB
  have e : flat (l ++ [q]) = flat l ++ q.cells := by simp [flat]
  have hO' : Own w' B v' (l ++ [q]) := by unfold Own; rw [List.length_append, e]; exact g1
  refine ⟨v', w', hr, hO', g2, g4, ?_⟩
  have hO0 := hO
  obtain ⟨hx, ⟨e0, e1⟩ | ⟨g, cp, cur, e0, hBg, hg, hnc, hcm, hcs, htk⟩⟩ := hO
  · rw [List.eq_nil_of_length_eq_zero e1]
    exact fun hp => by simp [flat] at hp
  · injection e0 with e0 _ e2
    subst e0; subst e2
    by_cases hroom : l.length + 1 ≤ cap
    · have hc4 := Nat.mul_le_mul_right 4 hroom
      have hr2 := run_append_room (P := Try.prog) W 29 ty 22 i Try.underlying29 hi g l.length cap cur hg ad 1 1 q.cells (by rw [hsz]; rfl) hnews h1 hroom (by rw [hsz]; simp only [Cd.cells, List.length_cons, List.length_nil]; omega)
      rw [hr] at hr2
      injection hr2 with hv hw
      obtain ⟨p', c', ev, _, hrd, _⟩ := hO'.form
      rw [hv] at ev
      injection ev with ep _ _
      rw [← ep] at hrd
      have := hrd.take l.length
      rw [List.take_left] at this
      exact this
    · have hr2 := run_append_grow (P := Try.prog) W 29 ty 22 i (.agg #[.int .i64 0, .int .i64 0, .int .i64 0, .int .i64 0]) Try.underlying29 hi hz ⟨g, 0, none⟩ l.length cap (flat l) (by rw [hsz, flat_len]; omega) (World.ownsRow.cells hO0 (g := g) rfl) ad 1 1 q.cells (by rw [hsz]; rfl) hnews (by omega) (by omega) (by rw [hb]; exact growslice_fits (by omega) (by omega))
      rw [hr] at hr2
      injection hr2 with hv hw
      rw [hw]
      obtain ⟨p', c', ev, _, hrd, _⟩ := hO0.form
      injection ev with ep _ _
      rw [← ep] at hrd
      exact (hrd.drew).alloc _
theorem append_cd_keep {ops : Array Oper} {rest : List Oper} {o : Oper} {a : Act} {Q : Exit → Act → World → Prop} (hgd : o.guard = none) (s x : Operand)
    (ho : o.op = .call { callee := .builtin .append, args := #[s, x], argTypes := #[29, 29] }) (B : Nat) (p : Option Addr) (n cap : Nat) (l : List Cd) (q : Cd) (W : World) (g : Nat) (hg : W.heap.size = g)
    (hs : a.eval s = .slice p n cap) (hx : a.eval x = .slice (some ⟨g, 0, none⟩) 1 1) (hO : Own W B (.slice p n cap) l) (hn : l.length = n) (hl : n ≤ 1000000000) (hB : B ≤ W.heap.size)
    (h : ∀ v' w', Own w' B v' (l ++ [q]) → Below B W w' → W.grownBy w' (Value.slice p n cap).ownBlock → (v'.ownBlock = (Value.slice p n cap).ownBlock ∨ v'.ownBlock = some (W.heap.size + 1)) → Rd w' p (flat l) → wpList Try.prog ops Q rest (a.put o.dst v') w') : wpList Try.prog ops Q (o :: rest) a (W.alloc q.obj) := by
  subst hg
  have he : (W.alloc q.obj).heap.size = W.heap.size + 1 := by simp
  refine wpList_plain hgd fun K hK => ?_
  obtain ⟨v', w', hr, g1, g2, g3, g4⟩ := run_keep (W.alloc q.obj) o.type B n cap p l q ⟨W.heap.size, 0, none⟩ hn (hO.alloc _) (fun j u hu => by
    have hadd : (⟨W.heap.size, 0, none⟩ : Addr).add j = ⟨W.heap.size, j, none⟩ := by unfold Addr.add; split <;> simp_all
    rw [hadd, cell_of_row _ _ j _ _ _ (heap_alloc_new W q.obj)]
    simpa [Cd.cells] using hu) hl (by omega)
  unfold Oper.wp execOp
  simp only [ho, resolve, invoke, builtin, Sem.run_bind, Sem.run_pure, Result.andThen_ok, List.map_toArray, List.map_cons, List.map_nil, hs, hx, hr]
  exact hK _ _ (h v' w' g1 (((Below.refl _ _).alloc hB _).grown g2 (by omega) (fun k hk => (World.ownsRow.lt hO k hk).1)) ((World.grownBy_alloc W _ _).trans g2) (by rw [he] at g3; exact g3) g4)
end Go.Proofs.Ytjanphcfflahkaa.cards
