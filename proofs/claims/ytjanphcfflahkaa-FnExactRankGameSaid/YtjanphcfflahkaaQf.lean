/- A Deal that comes in: two numbers and a slice of cards, whose traits are numbers of 64 bits. -/
import Derived.Test.YtjanphcfflahkaaFw
import Derived.Test.YtjanphcfflahkaaQt
import Derived.Test.YtjanphcfflahkaaQc
namespace Go.Proofs.Ytjanphcfflahkaa.frame
open Go.ChangeShapes Go.WideShapes Go.ChangeAt Go.RowKit Go.Deep
open cards deal
set_option linter.unusedVariables false

section
variable {H : Type} {enc : TypeId × Value → H} {P : Program} {w : World} {base : Nat} {spare : Nat → Bool} {held : Bool}

/-- A slice of cards that comes in: it reads as a list of cards. -/
theorem open_cards {t a e : TypeId} {fuel : Nat} {cs : List Value} {x : DataW H × List MemPlace} (ht : P.underlying t = some (.slice a)) (ha : P.underlying a = some (.array 4 e)) (he : P.underlying e = some (.int .i64)) (hce : P.cellsOf e = 1) (hca : P.cellsOf a = 4)
    (hf : DataW.trod enc P w base spare held fuel t cs = some x) : ∃ (q : Option Addr) (n c : Nat) (l : List Cd), cs = [.slice q n c] ∧ l.length = n ∧ n ≤ maxLen ∧ Rd w q (flat l) ∧ ∀ x ∈ l, wfc x := by
  rcases open_slice ht hf with ⟨hcs, _⟩ | ⟨ad, n, c, m, k, D, Pl, hcs, _, hl, hm, hmm, _, hi⟩
  · exact ⟨none, 0, 0, [], hcs, rfl, by omega, fun hp => by simp [flat] at hp, by simp⟩
  · have hlm : n ≤ m := by rw [hmm]; split <;> omega
    have key : ∀ i, ∃ x : Cd, wfc x ∧ (i < n → ∀ j u, x.cells[j]? = some u → w.cell? ((ad.add (i * 4)).add j) = some u) := by
      intro i
      by_cases hin : i < n
      · obtain ⟨cs, hc, htr⟩ := hi i (by omega)
        rw [hca] at hc
        obtain ⟨_, hlen, hat⟩ := World.cells?_some hc
        obtain ⟨c0, c1, c2, c3, rfl⟩ := list4 cs (by simpa using hlen)
        obtain ⟨y0, y1, y2, y3, m', hx, hy0, hy1, hy2, hy3⟩ := trod_array4 ha hce htr
        obtain ⟨x0, e0, rfl, w0⟩ := DataW.trod_int he hy0
        obtain ⟨x1, e1, rfl, w1⟩ := DataW.trod_int he hy1
        obtain ⟨x2, e2, rfl, w2⟩ := DataW.trod_int he hy2
        obtain ⟨x3, e3, rfl, w3⟩ := DataW.trod_int he hy3
        simp at e0 e1 e2 e3
        subst e0 e1 e2 e3
        refine ⟨⟨x0, x1, x2, x3⟩, ⟨w0, w1, w2, w3⟩, fun _ j u hu => ?_⟩
        have hj : j < 4 := by have := (List.getElem?_eq_some_iff.1 hu).1; simpa [Cd.cells] using this
        rw [hat j hj]; exact hu
      · exact ⟨zero, wfc_zero, fun h => absurd h hin⟩
    obtain ⟨f, hF0⟩ := Classical.axiomOfChoice key
    have hF := fun i => (hF0 i).2
    have hW := fun i => (hF0 i).1
    refine ⟨some ad, n, c, (List.range n).map f, hcs, by simp, by omega, fun hp => ?_, fun x hx => by
      obtain ⟨i, _, rfl⟩ := List.mem_map.1 hx
      exact hW i⟩
    rw [flat_len] at hp
    have h0 : 0 < n := by simpa using hp
    obtain ⟨b, o, sp⟩ := ad
    have hspot : sp = none := by
      have := hF 0 h0 0 _ rfl
      simpa [Addr.add] using World.cell?_spot this
    subst hspot
    have hc : ∀ j u, (flat ((List.range n).map f))[j]? = some u → w.cell? ⟨b, o + j, none⟩ = some u := by
      intro j u hu
      have hj : j < n * 4 := by
        have := (List.getElem?_eq_some_iff.1 hu).1
        rw [flat_len] at this
        simp at this; omega
      have hx : ((List.range n).map f)[j / 4]? = some (f (j / 4)) := by simp [show j / 4 < n by omega]
      obtain ⟨h0, h1, h2, h3⟩ := flat_at _ _ _ hx
      have hG := hF (j / 4) (by omega) (j % 4) u (by
        rcases (show j % 4 = 0 ∨ j % 4 = 1 ∨ j % 4 = 2 ∨ j % 4 = 3 by omega) with h | h | h | h
        · rw [show j = 4 * (j / 4) by omega, h0] at hu; rw [h]; exact hu
        · rw [show j = 4 * (j / 4) + 1 by omega, h1] at hu; rw [h]; exact hu
        · rw [show j = 4 * (j / 4) + 2 by omega, h2] at hu; rw [h]; exact hu
        · rw [show j = 4 * (j / 4) + 3 by omega, h3] at hu; rw [h]; exact hu)
      rw [add_plain, add_plain] at hG
      rw [show o + j = o + j / 4 * 4 + j % 4 by omega]
      exact hG
    refine ⟨b, o, rfl, ?_, hc⟩
    obtain ⟨u, hu⟩ : ∃ u, (flat ((List.range n).map f))[0]? = some u := ⟨_, List.getElem?_eq_getElem (by rw [flat_len]; exact hp)⟩
    exact block_lt_of_cell (hc 0 u hu)
/-- A Deal that comes in. -/
theorem open_deal {r : Reach} {b0 : Nat} {t ti ts a e : TypeId} {f0 f1 f2 : Field} {v : Value} {d : DataW H} {p : List MemPlace} (ht : P.underlying t = some (.struct #[f0, f1, f2])) (e0 : f0.type = ti) (e1 : f1.type = ti) (e2 : f2.type = ts) (o0 : f0.offset = 0) (o1 : f1.offset = 1) (o2 : f2.offset = 2)
    (hi : P.underlying ti = some (.int .i64)) (hci : P.cellsOf ti = 1) (hs : P.underlying ts = some (.slice a)) (hcs : P.cellsOf ts = 1) (ha : P.underlying a = some (.array 4 e)) (he : P.underlying e = some (.int .i64)) (hce : P.cellsOf e = 1) (hca : P.cellsOf a = 4) (hct : P.cellsOf t = 3)
    (hv : Value.okWide P w r b0 t v) (h : DataW.Trod enc P w base spare held t v d p) : ∃ (s nx : Int) (q : Option Addr) (n c : Nat) (l : List Cd), v = .agg #[.int .i64 s, .int .i64 nx, .slice q n c] ∧ l.length = n ∧ n ≤ maxLen ∧ Rd w q (flat l) ∧ (∀ x ∈ l, wfc x) ∧ (Lit.int .i64 s).wf = true ∧ (Lit.int .i64 nx).wf = true := by
  obtain ⟨cs, rfl, hsz, _⟩ : ∃ cs, v = .agg cs ∧ cs.size = P.cellsOf t ∧ Row.okWide P w r b0 t cs := by simpa [Value.okWide, ht] using hv
  rw [hct] at hsz
  obtain ⟨l⟩ := cs
  obtain ⟨c0, c1, c2, rfl⟩ : ∃ c0 c1 c2, l = [c0, c1, c2] := by
    match l, hsz with
    | [x, y, z], _ => exact ⟨x, y, z, rfl⟩
  obtain ⟨fuel, hf⟩ := h
  obtain ⟨xs, n, _, hx, hl, hlen, hff⟩ := DataW.trod_struct ht hf
  match xs, hlen with
  | [y0, y1, y2], _ =>
    have g0 := hff 0 f0 rfl
    have g1 := hff 1 f1 rfl
    have g2 := hff 2 f2 rfl
    simp [e0, e1, e2, o0, o1, o2, hci, hcs, Value.cells] at g0 g1 g2
    obtain ⟨s, es, rfl, ws⟩ := DataW.trod_int hi g0
    obtain ⟨nx, en, rfl, wn⟩ := DataW.trod_int hi g1
    obtain ⟨q, n, c, l, eq, hn, hm, hr, hw⟩ := open_cards hs ha he hce hca g2
    simp at es en eq
    subst es en eq
    exact ⟨s, nx, q, n, c, l, rfl, hn, hm, hr, hw, ws, wn⟩
/-- Three numbers of 64 bits, as a value. -/
theorem open_a3w {r : Reach} {b0 : Nat} {t e : TypeId} {v : Value} {d : DataW H} {p : List MemPlace} (ht : P.underlying t = some (.array 3 e)) (he : P.underlying e = some (.int .i64)) (hce : P.cellsOf e = 1) (hct : P.cellsOf t = 3)
    (hv : Value.okWide P w r b0 t v) (h : DataW.Trod enc P w base spare held t v d p) : ∃ x : A3, v = x.val ∧ wf3 x := by
  obtain ⟨cs, rfl, hsz, _⟩ : ∃ cs, v = .agg cs ∧ cs.size = P.cellsOf t ∧ Row.okWide P w r b0 t cs := by simpa [Value.okWide, ht] using hv
  rw [hct] at hsz
  obtain ⟨l⟩ := cs
  obtain ⟨c0, c1, c2, rfl⟩ : ∃ c0 c1 c2, l = [c0, c1, c2] := by
    match l, hsz with
    | [x, y, z], _ => exact ⟨x, y, z, rfl⟩
  obtain ⟨fuel, hf⟩ := h
  obtain ⟨y0, y1, y2, m, hx, hy0, hy1, hy2⟩ := trod_array3 ht hce hf
  obtain ⟨x0, e0, rfl, w0⟩ := DataW.trod_int he hy0
  obtain ⟨x1, e1, rfl, w1⟩ := DataW.trod_int he hy1
  obtain ⟨x2, e2, rfl, w2⟩ := DataW.trod_int he hy2
  simp at e0 e1 e2
  subst e0 e1 e2
  exact ⟨⟨x0, x1, x2⟩, rfl, w0, w1, w2⟩
end
end Go.Proofs.Ytjanphcfflahkaa.frame
