/- Draws: two cards, three cards, a number. -/
import Derived.Test.YtnibkipepmakgaaKd
namespace Go.Proofs.Ytnibkipepmakgaa.draw
open Go.RowKit
open cards
set_option linter.unusedVariables false

theorem Cur.new {w : World} {g : Nat} {p : Option Addr} {n c : Nat} {l : List Int} (hg : w.heap.size = g) (hr : Rd w p (bys l)) (hl : l.length = n) (hy : isByte l) : Cur (w.alloc (Cv.obj ⟨.slice p n c, 0, 0⟩)) g p n c l 0 := by
  refine ⟨0, 0, CBox.newAt hg rfl, by omega, by omega, Rd.alloc hr _, hl, hy, fun h0 q e => ?_⟩
  obtain ⟨b, o, e2, hb, _⟩ := hr (by simp; omega)
  rw [e2] at e
  cases e
  simp only
  omega

theorem Cur.by2 {w w1 : World} {g g2 : Nat} {p : Option Addr} {n c : Nat} {l : List Int} {N : Nat} (h : Cur w g p n c l N) (hG : w.grownBy w1 (some g2)) (hne : g2 ≠ g) (hf : 0 < n → ∀ q, p = some q → q.block ≠ g2) : Cur w1 g p n c l N := by
  obtain ⟨a, s, hb, h0, h1, hr, hl, h2⟩ := h
  exact ⟨a, s, (hG.block g hb.lt (fun e => hne (by cases e; rfl))).trans hb, h0, h1, Rd.grown hr hG (fun hp => hf (by simp at hp; omega)), hl, h2⟩
theorem Cur.set4 {w : World} {g g2 : Nat} {p : Option Addr} {n c : Nat} {l : List Int} {N : Nat} (h : Cur w g p n c l N) (hne : g2 < g) (hf : Far p n g2) (x : Cd) : Cur ((((w.setCell ⟨g2, 0, none⟩ (.int .i64 x.a)).setCell ⟨g2, 1, none⟩ (.int .i64 x.b)).setCell ⟨g2, 2, none⟩ (.int .i64 x.c)).setCell ⟨g2, 3, none⟩ (.int .i64 x.d)) g p n c l N :=
  h.by2 (grown_set4 w g2 x) (by omega) (fun h0 q e => Nat.ne_of_lt (hf h0 q e))
theorem res_22 {fn : Func} {i j : Tmp} (hf : fn.results = #[.cell i 54, .cell j 54]) {tmps : Array Value} {w : World} {g k : Nat} {x y : Cd} (ht : tmps.getD i undef = .pointer (some ⟨g, 0, none⟩)) (hu : tmps.getD j undef = .pointer (some ⟨k, 0, none⟩)) (h : Box w g x) (h2 : Box w k y) :
    (results fn tmps).run Try.prog w = .ok (.tuple #[x.val, y.val]) w := by
  have hl := load_cardC h
  have hl2 := load_cardC h2
  rw [Array.getD_eq_getD_getElem?] at ht hu
  simp only [results, hf]
  simp [Sem.run_bind, ht, hu, asAddr, hl, hl2]

end Go.Proofs.Ytnibkipepmakgaa.draw
