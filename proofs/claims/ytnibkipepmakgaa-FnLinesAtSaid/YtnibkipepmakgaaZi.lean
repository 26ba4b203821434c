/- slices.DeleteFunc on a list of lines. -/
import Derived.Test.YtnibkipepmakgaaZb
import Derived.Test.YtnibkipepmakgaaZg
import Derived.Lib.SliceRun
import Derived.Laws.IdiomCopy
namespace Go.Proofs.Ytnibkipepmakgaa.parting
open Go.RowKit
open cards maps
set_option linter.unusedVariables false

theorem OwnA3.shrink {w : World} {B g n c i : Nat} {R : List A3} (h : OwnA3 w B (.slice (some ⟨g, 0, none⟩) n c) R) (hn : R.length = n) (hi : i ≤ n) : OwnA3 w B (.slice (some ⟨g, 0, none⟩) i c) (R.take i) := by
  have hl : (R.take i).length = i := by rw [List.length_take]; omega
  unfold OwnA3 at h ⊢
  rw [hl]
  obtain ⟨h0, ⟨x, _⟩ | ⟨g', cap, cur, e, hB, hg, hnc, hcm, hcs, htk⟩⟩ := h
  · simp at x
  · injection e with e1 e2 e3
    injection e1 with e1
    injection e1 with e1
    subst e1; subst e3
    refine ⟨by rw [A3.flat_len, hl]; omega, .inr ⟨g, c, cur, rfl, hB, hg, by omega, hcm, hcs, ?_⟩⟩
    rw [A3.flat_take, ← htk, List.take_take]
    congr 1
    omega
theorem OwnA3.behind {B g i c : Nat} {L : List A3} (hL : L.length = i) : ∀ (vs : List Value) (o : Nat) (w : World), 3 * i ≤ o → OwnA3 w B (.slice (some ⟨g, 0, none⟩) i c) L → OwnA3 (w.setCells g o vs) B (.slice (some ⟨g, 0, none⟩) i c) L
  | [], o, w, _, h => h
  | v :: r, o, w, ho, h => by
    refine OwnA3.behind hL r (o + 1) _ (by omega) ?_
    unfold OwnA3 at h ⊢
    subst hL
    have h1 := (World.ownsRow.stored h o v).1
    rw [List.set_eq_of_length_le (by rw [A3.flat_len]; omega)] at h1
    exact h1
theorem grown_cells {a : World} {g : Nat} : ∀ (vs : List Value) (o : Nat) (w : World), a.grownBy w (some g) → a.grownBy (w.setCells g o vs) (some g)
  | [], o, w, h => h
  | v :: r, o, w, h => grown_cells r (o + 1) _ (grown_set h o v)
theorem run_clear3 (w : World) (ty : TypeId) (b o n c : Nat) (hn : 0 < n)
    (hc : ∀ j, j < n * 3 → (w.cell? ⟨b, o + j, none⟩).isSome = true) (hf : ∀ j, j < n * 3 → w.frozen? ⟨b, o + j, none⟩ = false) :
    (Builtin.clear_ #[27] ty #[.slice (some ⟨b, o, none⟩) n c]).run Try.prog w = .ok (.tuple #[]) (w.setCells b o (List.replicate (n * 3) (.int .i64 0))) := by
  have ht := Try.underlying27
  have hv : ∀ w, (zeroValue 46).run Try.prog w = .ok (.agg #[.int .i64 0, .int .i64 0, .int .i64 0]) w := fun w => by kernel_rfl
  have hzc : (Builtin.zeroCells (Value.agg #[.int .i64 0, .int .i64 0, .int .i64 0]).cells n).toList = List.replicate (n * 3) (.int .i64 0) := by
    apply List.ext_getElem?
    intro j
    by_cases hj : j < n * 3
    · have h3 : j % 3 = 0 ∨ j % 3 = 1 ∨ j % 3 = 2 := by omega
      rw [List.getElem?_replicate, if_pos hj]
      rcases h3 with h | h | h <;> simp [Builtin.zeroCells, Value.cells, hj, h]
    · rw [List.getElem?_replicate, if_neg hj]
      simp [Builtin.zeroCells, Value.cells]; omega
  have hst := run_storeCells_cells (P := Try.prog) b o (List.replicate (n * 3) (.int .i64 0)) 0 w (by simpa using hc) (by simpa using hf) (by intro v hv'; rw [List.eq_of_mem_replicate hv']; rfl)
  simp only [Nat.add_zero] at hst
  obtain ⟨m, rfl⟩ : ∃ m, n = m + 1 := ⟨n - 1, by omega⟩
  simp [Builtin.clear_, run_underlying ht, hv, hzc, hst]
theorem OwnA3.some_ {w : World} {B g n c : Nat} {R : List A3} (hn : R.length = n) (h : OwnA3 w B (.slice (some ⟨g, 0, none⟩) n c) R) : (∀ j, j < n * 3 → (w.cell? ⟨g, j, none⟩).isSome = true) ∧ ∀ j, w.frozen? ⟨g, j, none⟩ = false := by
  subst hn
  refine ⟨fun j hj => ?_, fun j => World.ownsRow.frozenAt h j⟩
  rw [World.ownsRow.cellAt h j hj, Option.isSome_iff_exists]
  exact ⟨_, List.getElem?_eq_getElem (by rw [A3.flat_len]; omega)⟩
theorem below_grown {w w' : World} {row : Option Nat} (hb : Below w.heap.size w w') : w.grownBy w' row := ⟨hb.os, hb.tape, hb.output, hb.size, fun j hj _ => hb.block j hj⟩
end Go.Proofs.Ytnibkipepmakgaa.parting
