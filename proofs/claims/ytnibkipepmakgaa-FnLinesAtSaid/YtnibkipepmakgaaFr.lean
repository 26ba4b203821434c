/- How arguments are opened, and how they read as before when nothing old has turned: for whatever list of arguments. -/
import Derived.Test.YtnibkipepmakgaaHd
import Derived.Carry
import Derived.Deep.Slices
import Derived.OpenShut
import Derived.Laws.IdiomArrays
namespace Go.Proofs.Ytnibkipepmakgaa.frame
open Go.ChangeShapes Go.WideShapes Go.ChangeAt Go.RowKit Go.Deep
open cards
set_option linter.unusedVariables false

/-- All arguments read as they did. -/
theorem still_all {H : Type} {enc : TypeId × Value → H} {P : Program} (hl : laidOutB P = true) {W W' : World} (hb : Below W.heap.size W W') :
    ∀ (ts : List TypeId) (vs : List Value) (ds : List (DataW H)) (ps : List MemPlace), (∀ t ∈ ts, P.readableRec t = true ∧ t < P.types.size) → DataW.TrodAll enc P W 0 (fun _ => true) true ts vs ds ps →
      DataW.TrodAll enc P W' 0 (fun b => decide (b < W.heap.size)) true ts vs ds ps
  | [], [], [], _, _, h => h
  | t :: ts, v :: vs, d :: ds, _, hr, ⟨p, q, h, r, e⟩ =>
    ⟨p, q, Below.trod hl (hr t (by simp)).1 (hr t (by simp)).2 h hb (by obtain ⟨n, hn⟩ := h; exact DataW.trod_lt n _ _ _ hn),
      still_all hl hb ts vs ds q (fun u hu => hr u (by simp [hu])) r, e⟩
  | [], _ :: _, _, _, _, h => h.elim
  | [], [], _ :: _, _, _, h => h.elim
  | _ :: _, [], _, _, _, h => h.elim
  | _ :: _, _ :: _, [], _, _, h => h.elim

section
variable {H : Type} {enc : TypeId × Value → H} {P : Program} {w : World} {base : Nat} {spare : Nat → Bool} {held : Bool}

/-- A number of 64 bits. -/
def i64ok (n : Int) : Prop := (Lit.int .i64 n).wf = true
theorem i64bd {n : Int} (h : i64ok n) : -9223372036854775808 ≤ n ∧ n ≤ 9223372036854775807 := bounds_i64 h
theorem list4 {α : Type} (l : List α) (h : (⟨l⟩ : Array α).size = 4) : ∃ a b c d, l = [a, b, c, d] := by
  match l, h with
  | [a, b, c, d], _ => exact ⟨a, b, c, d, rfl⟩

/-- An array of four numbers, as a value. -/
theorem open_a4 {r : Reach} {b0 : Nat} {t e : TypeId} {v : Value} {d : DataW H} {p : List MemPlace} (ht : P.underlying t = some (.array 4 e)) (he : P.underlying e = some (.int .i64)) (hce : P.cellsOf e = 1) (hct : P.cellsOf t = 4)
    (hv : Value.okWide P w r b0 t v) (h : DataW.Trod enc P w base spare held t v d p) : ∃ x : Cd, v = x.val := by
  obtain ⟨cs, rfl, hsz, _⟩ : ∃ cs, v = .agg cs ∧ cs.size = P.cellsOf t ∧ Row.okWide P w r b0 t cs := by simpa [Value.okWide, ht] using hv
  rw [hct] at hsz
  obtain ⟨l⟩ := cs
  obtain ⟨c0, c1, c2, c3, rfl⟩ := list4 l hsz
  obtain ⟨fuel, hf⟩ := h
  obtain ⟨y0, y1, y2, y3, m, hx, hy0, hy1, hy2, hy3⟩ := trod_array4 ht hce hf
  obtain ⟨x0, e0, rfl, w0⟩ := DataW.trod_int he hy0
  obtain ⟨x1, e1, rfl, w1⟩ := DataW.trod_int he hy1
  obtain ⟨x2, e2, rfl, w2⟩ := DataW.trod_int he hy2
  obtain ⟨x3, e3, rfl, w3⟩ := DataW.trod_int he hy3
  simp at e0 e1 e2 e3
  subst e0 e1 e2 e3
  exact ⟨⟨x0, x1, x2, x3⟩, rfl⟩
/-- A slice of cards that comes in: it reads as a list of cards. -/
theorem open_hand {r : Reach} {b0 : Nat} {t a e : TypeId} {v : Value} {d : DataW H} {p : List MemPlace} (ht : P.underlying t = some (.slice a)) (ha : P.underlying a = some (.array 4 e)) (he : P.underlying e = some (.int .i64)) (hce : P.cellsOf e = 1) (hca : P.cellsOf a = 4)
    (hv : Value.okWide P w r b0 t v) (h : DataW.Trod enc P w base spare held t v d p) : ∃ (q : Option Addr) (n c : Nat) (l : List Cd), v = .slice q n c ∧ l.length = n ∧ n ≤ maxLen ∧ Rd w q (flat l) := by
  obtain ⟨q, n, c, rfl⟩ := okWide_slice ht hv
  obtain ⟨fuel, hf⟩ := h
  rcases open_slice ht hf with ⟨hcs, _⟩ | ⟨ad, len, cap, m, k, D, Pl, hcs, _, hl, hm, hmm, _, hi⟩
  · simp [Value.cells] at hcs
    obtain ⟨rfl, rfl, rfl⟩ := hcs
    exact ⟨none, 0, 0, [], rfl, rfl, by omega, fun hp => by simp [flat] at hp⟩
  · simp [Value.cells] at hcs
    obtain ⟨rfl, rfl, rfl⟩ := hcs
    have hlm : n ≤ m := by rw [hmm]; split <;> omega
    have key : ∀ i, ∃ x : Cd, i < n → ∀ j u, x.cells[j]? = some u → w.cell? ((ad.add (i * 4)).add j) = some u := by
      intro i
      by_cases hin : i < n
      · obtain ⟨cs, hc, htr⟩ := hi i (by omega)
        rw [hca] at hc
        obtain ⟨_, hlen, hat⟩ := World.cells?_some hc
        obtain ⟨c0, c1, c2, c3, rfl⟩ := list4 cs (by simpa using hlen)
        obtain ⟨y0, y1, y2, y3, m', hx, hy0, hy1, hy2, hy3⟩ := trod_array4 ha hce htr
        obtain ⟨x0, e0, rfl, w0⟩ := DataW.trod_int he hy0
        obtain ⟨x1, e1, rfl, w1⟩ := DataW.trod_int he hy1
        obtain ⟨x2, e2, rfl, w2⟩ := DataW.trod_int he hy2
        obtain ⟨x3, e3, rfl, w3⟩ := DataW.trod_int he hy3
        simp at e0 e1 e2 e3
        subst e0 e1 e2 e3
        refine ⟨⟨x0, x1, x2, x3⟩, fun _ j u hu => ?_⟩
        have hj : j < 4 := by have := (List.getElem?_eq_some_iff.1 hu).1; simpa [Cd.cells] using this
        rw [hat j hj]; exact hu
      · exact ⟨zero, fun h => absurd h hin⟩
    obtain ⟨f, hF⟩ := Classical.axiomOfChoice key
    refine ⟨some ad, n, c, (List.range n).map f, rfl, by simp, by omega, fun hp => ?_⟩
    rw [flat_len] at hp
    have h0 : 0 < n := by simpa using hp
    obtain ⟨b, o, sp⟩ := ad
    have hspot : sp = none := by
      have := hF 0 h0 0 _ rfl
      simpa [Addr.add] using World.cell?_spot this
    subst hspot
    have hc : ∀ j u, (flat ((List.range n).map f))[j]? = some u → w.cell? ⟨b, o + j, none⟩ = some u := by
      intro j u hu
      have hj : j < n * 4 := by
        have := (List.getElem?_eq_some_iff.1 hu).1
        rw [flat_len] at this
        simp at this; omega
      have hx : ((List.range n).map f)[j / 4]? = some (f (j / 4)) := by simp [show j / 4 < n by omega]
      obtain ⟨h0, h1, h2, h3⟩ := flat_at _ _ _ hx
      have hG := hF (j / 4) (by omega) (j % 4) u (by
        rcases (show j % 4 = 0 ∨ j % 4 = 1 ∨ j % 4 = 2 ∨ j % 4 = 3 by omega) with h | h | h | h
        · rw [show j = 4 * (j / 4) by omega, h0] at hu; rw [h]; exact hu
        · rw [show j = 4 * (j / 4) + 1 by omega, h1] at hu; rw [h]; exact hu
        · rw [show j = 4 * (j / 4) + 2 by omega, h2] at hu; rw [h]; exact hu
        · rw [show j = 4 * (j / 4) + 3 by omega, h3] at hu; rw [h]; exact hu)
      rw [add_plain, add_plain] at hG
      rw [show o + j = o + j / 4 * 4 + j % 4 by omega]
      exact hG
    refine ⟨b, o, rfl, ?_, hc⟩
    obtain ⟨u, hu⟩ : ∃ u, (flat ((List.range n).map f))[0]? = some u := ⟨_, List.getElem?_eq_getElem (by rw [flat_len]; exact hp)⟩
    exact block_lt_of_cell (hc 0 u hu)
end
end Go.Proofs.Ytnibkipepmakgaa.frame
