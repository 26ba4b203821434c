/- A card that is appended: what the elder slice held it still holds, and holds again when what was made of it is done with. -/
import Derived.Test.YtjanphcfflahkaaAw
import Derived.Test.YtjanphcfflahkaaPs
namespace Go.Proofs.Ytjanphcfflahkaa.chance
open Go.RowKit
open cards
set_option linter.unusedVariables false

theorem Own.backC {a b : World} {B g m c g' m' c' : Nat} {ps : List Cd} {q : Cd} {T : Nat → Prop} (h1 : Own a B (.slice (some ⟨g, 0, none⟩) m c) ps) (h2 : Own a B (.slice (some ⟨g', 0, none⟩) m' c') (ps ++ [q])) (h3 : Own b B (.slice (some ⟨g', 0, none⟩) m' c') (ps ++ [q])) (ht : Turn T a b) (hg : g ≠ g' → ¬ T g) (hm : ps.length = m) :
    Own b B (.slice (some ⟨g, 0, none⟩) m c) ps := by
  by_cases e : g = g'
  · subst e
    obtain ⟨l1, ⟨x, _⟩ | ⟨g1, cap1, cur1, e1, hB1, hg1, hn1, hc1, hs1, ht1⟩⟩ := h1
    · simp at x
    obtain ⟨l2, ⟨x, _⟩ | ⟨g2, cap2, cur2, e2, hB2, hg2, hn2, hc2, hs2, ht2⟩⟩ := h2
    · simp at x
    obtain ⟨l3, ⟨x, _⟩ | ⟨g3, cap3, cur3, e3, hB3, hg3, hn3, hc3, hs3, ht3⟩⟩ := h3
    · simp at x
    injection e1 with e1 _ e1c
    injection e1 with e1
    injection e1 with e1
    injection e2 with e2 _ e2c
    injection e2 with e2
    injection e2 with e2
    injection e3 with e3 _ e3c
    injection e3 with e3
    injection e3 with e3
    subst e1; subst e2; subst e3
    rw [hg1] at hg2
    injection hg2 with hg2
    injection hg2 with hg2
    subst hg2
    have hcc : cap1 = cap3 := by omega
    refine ⟨l1, .inr ⟨_, cap1, cur3, by rw [e1c, hm], hB1, hg3, hn1, hc1, by rw [hs3, hcc], ?_⟩⟩
    have h5 := congrArg (List.take (ps.length * 4)) ht3
    rw [List.take_take] at h5
    have e5 : flat (ps ++ [q]) = flat ps ++ q.cells := by simp [flat]
    have hR : List.take (ps.length * 4) (flat ps ++ q.cells) = flat ps := by rw [show ps.length * 4 = (flat ps).length by rw [flat_len]; omega, List.take_left]
    have hmin : min (ps.length * 4) ((ps ++ [q]).length * 4) = ps.length * 4 := by rw [List.length_append]; omega
    rw [hmin, e5, hR] at h5
    exact h5
  · exact ht.own h1 (fun x hx => by
      injection hx with hx
      rw [← hx]; exact hg e)
theorem run_push (W : World) (ty : TypeId) (B n cap : Nat) (g0 : Nat) (l : List Cd) (q : Cd) (g : Nat) (hn : l.length = n) (hO : Own W B (.slice (some ⟨g0, 0, none⟩) n cap) l) (hb : Box W g q) (hl : n ≤ 1000000000) (hB : B ≤ W.heap.size) :
    ∃ g' c' w', (Builtin.append_ #[29, 29] ty #[.slice (some ⟨g0, 0, none⟩) n cap, .slice (some ⟨g, 0, none⟩) 1 1]).run Try.prog W = .ok (.slice (some ⟨g', 0, none⟩) (n + 1) c') w' ∧ Own w' B (.slice (some ⟨g', 0, none⟩) (n + 1) c') (l ++ [q]) ∧ n + 1 ≤ c' ∧ Own w' B (.slice (some ⟨g0, 0, none⟩) n cap) l ∧ W.grownBy w' (some g0) ∧ (g' = g0 ∨ g' = W.heap.size) := by
  subst hn
  obtain ⟨i, hi, hz, hsz, hbb⟩ := info_parts a4info
  have h1 : ∀ u ∈ q.cells, u.oneCell' = true := by intro u hu; simp [Cd.cells] at hu; rcases hu with rfl | rfl | rfl | rfl <;> rfl
  have hnews : ∀ j u, q.cells[j]? = some u → W.cell? ((⟨g, 0, none⟩ : Addr).add j) = some u := fun j u hu => by
    have hadd : (⟨g, 0, none⟩ : Addr).add j = ⟨g, j, none⟩ := by unfold Addr.add; split <;> simp_all
    rw [hadd, cell_of_row _ _ j _ _ _ hb]
    simpa [Cd.cells] using hu
  obtain ⟨v', w', hr, g1, g2, _, g4⟩ := run_append_own_at (P := Try.prog) W B 29 ty 22 i (.agg #[.int .i64 0, .int .i64 0, .int .i64 0, .int .i64 0]) 4 32 Try.underlying29 hi hz hsz hbb rfl (by decide) (.slice (some ⟨g0, 0, none⟩) l.length cap) l.length (flat l) hO ⟨g, 0, none⟩ 1 1 q.cells rfl hnews h1 (by simp only [maxLen]; omega) (by omega) hB
  have e : flat (l ++ [q]) = flat l ++ q.cells := by simp [flat]
  have hO' : Own w' B v' (l ++ [q]) := by unfold Own; rw [List.length_append, e]; exact g1
  obtain ⟨p', c', rfl, hc', hrd', hp'⟩ := hO'.form
  have hlen : (l ++ [q]).length = l.length + 1 := by simp
  obtain ⟨g', rfl, _⟩ := hp' (by rw [hlen]; omega)
  rw [hlen] at hr hO' hc' g4
  refine ⟨g', c', w', hr, hO', hc', ?_, g2, by simpa [Value.ownBlock] using g4⟩
  have hO0 := hO
  obtain ⟨hx, ⟨e0, e1⟩ | ⟨g9, cp, cur, e0, hBg, hg, hnc, hcm, hcs, htk⟩⟩ := hO
  · simp at e0
  · injection e0 with e0 _ e2
    injection e0 with e0
    injection e0 with e0
    subst e0; subst e2
    by_cases hroom : l.length + 1 ≤ cap
    · have hc4 := Nat.mul_le_mul_right 4 hroom
      have hr2 := run_append_room (P := Try.prog) W 29 ty 22 i Try.underlying29 hi g0 l.length cap cur hg ⟨g, 0, none⟩ 1 1 q.cells (by rw [hsz]; rfl) hnews h1 hroom (by rw [hsz]; simp only [Cd.cells, List.length_cons, List.length_nil]; omega)
      rw [hr] at hr2
      injection hr2 with hv hw
      subst hw
      have hcl : cur.toList.length = cap * 4 := by rw [← hcs]; simp
      refine ⟨hx, .inr ⟨g0, cap, _, rfl, hBg, setRow_heap _ g0 cur _ _ _ hg, hnc, hcm, ?_, ?_⟩⟩
      · rw [hsz]; simp [hcs, Cd.cells]; omega
      · rw [hsz, ← htk, List.toList_toArray, List.append_assoc, List.take_append_of_le_length (by rw [List.length_take, hcl]; omega), List.take_take, Nat.min_self]
    · have hr2 := run_append_grow (P := Try.prog) W 29 ty 22 i (.agg #[.int .i64 0, .int .i64 0, .int .i64 0, .int .i64 0]) Try.underlying29 hi hz ⟨g0, 0, none⟩ l.length cap (flat l) (by rw [hsz, flat_len]; omega) (World.ownsRow.cells hO0 (g := g0) rfl) ⟨g, 0, none⟩ 1 1 q.cells (by rw [hsz]; rfl) hnews (by omega) (by omega) (by rw [hbb]; exact growslice_fits (by omega) (by omega))
      rw [hr] at hr2
      injection hr2 with hv hw
      subst hw
      exact (hO0.drew).alloc _
end Go.Proofs.Ytjanphcfflahkaa.chance
