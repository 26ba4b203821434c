/- A Game that comes in, a claim, a list of claims. -/
import Derived.Test.YtjanphcfflahkaaQf
import Derived.Test.YtjanphcfflahkaaEa
import Derived.ChangeSlices
namespace Go.Proofs.Ytjanphcfflahkaa.frame
open Go.ChangeShapes Go.WideShapes Go.ChangeAt Go.RowKit Go.Deep
open cards deal
set_option linter.unusedVariables false

def wfI (l : List Int) : Prop := ∀ x ∈ l, (Lit.int .i64 x).wf = true
section
variable {H : Type} {enc : TypeId × Value → H} {P : Program} {w : World} {base : Nat} {spare : Nat → Bool} {held : Bool}
/-- A slice of numbers that comes in. -/
theorem cells_ints {t e : TypeId} {fuel : Nat} {cs : List Value} {x : DataW H × List MemPlace} (ht : P.underlying t = some (.slice e)) (he : P.underlying e = some (.int .i64)) (hce : P.cellsOf e = 1)
    (hf : DataW.trod enc P w base spare held fuel t cs = some x) : ∃ (q : Option Addr) (n c : Nat) (l : List Int), cs = [.slice q n c] ∧ l.length = n ∧ n ≤ maxLen ∧ Rd w q (ints l) ∧ wfI l := by
  rcases open_ints ht he hce hf with ⟨hcs, _⟩ | ⟨ad, len, cap, zs, hcs, _, hl, hm, hss, _, hi, hz⟩
  · exact ⟨none, 0, 0, [], hcs, rfl, by omega, fun hp => by simp [ints] at hp, fun x hx => by simp at hx⟩
  · have hlm : len ≤ zs.length := by rw [hss]; split <;> omega
    refine ⟨some ad, len, cap, zs.take len, hcs, by rw [List.length_take]; omega, by omega, fun hp => ?_, fun x hx => hz x (List.mem_of_mem_take hx)⟩
    rw [ints_len] at hp
    simp only [List.length_take] at hp
    obtain ⟨b, o, sp⟩ := ad
    have hat : ∀ j v, (ints (zs.take len))[j]? = some v → w.cell? ((⟨b, o, sp⟩ : Addr).add j) = some v := by
      intro j v hv
      have hj : j < len := by
        have := (List.getElem?_eq_some_iff.1 hv).1
        rw [ints_len, List.length_take] at this; omega
      unfold ints at hv
      simp only [List.getElem?_map, List.getElem?_take, if_pos hj, List.getElem?_eq_getElem (show j < zs.length by omega), Option.map_some, Option.some.injEq] at hv
      subst hv
      have := hi j (by omega)
      rw [List.getD_eq_getElem?_getD, List.getElem?_eq_getElem (by omega)] at this
      exact this
    obtain ⟨v0, hv0⟩ : ∃ v0, (ints (zs.take len))[0]? = some v0 := ⟨_, List.getElem?_eq_getElem (by rw [ints_len, List.length_take]; omega)⟩
    have hspot : sp = none := by
      have := hat 0 v0 hv0
      simpa [Addr.add] using World.cell?_spot this
    subst hspot
    have hc : ∀ j v, (ints (zs.take len))[j]? = some v → w.cell? ⟨b, o + j, none⟩ = some v := by
      intro j v hv
      have := hat j v hv
      rw [add_plain] at this
      exact this
    exact ⟨b, o, rfl, block_lt_of_cell (hc 0 v0 hv0), hc⟩
/-- The cells of a claim. -/
theorem cells_claim {t ti ta : TypeId} {f0 f1 : Field} {fuel : Nat} {c0 c1 c2 c3 : Value} {x : DataW H × List MemPlace} (ht : P.underlying t = some (.struct #[f0, f1])) (e0 : f0.type = ti) (e1 : f1.type = ta) (o0 : f0.offset = 0) (o1 : f1.offset = 1)
    (hi : P.underlying ti = some (.int .i64)) (hci : P.cellsOf ti = 1) (ha : P.underlying ta = some (.array 3 ti)) (hca : P.cellsOf ta = 3)
    (hf : DataW.trod enc P w base spare held fuel t [c0, c1, c2, c3] = some x) : ∃ c : Cd, [c0, c1, c2, c3] = c.cells ∧ wfc c := by
  obtain ⟨xs, n, _, hx, hl, hlen, hff⟩ := DataW.trod_struct ht hf
  match xs, hlen with
  | [y0, y1], _ =>
    have g0 := hff 0 f0 rfl
    have g1 := hff 1 f1 rfl
    simp [e0, e1, o0, o1, hci, hca] at g0 g1
    obtain ⟨s, es, rfl, ws⟩ := DataW.trod_int hi g0
    obtain ⟨z0, z1, z2, m', hz, h0, h1, h2⟩ := trod_array3 ha hci g1
    obtain ⟨x0, r0, rfl, w0⟩ := DataW.trod_int hi h0
    obtain ⟨x1, r1, rfl, w1⟩ := DataW.trod_int hi h1
    obtain ⟨x2, r2, rfl, w2⟩ := DataW.trod_int hi h2
    simp at es r0 r1 r2
    subst es r0 r1 r2
    exact ⟨⟨s, x0, x1, x2⟩, rfl, ws, w0, w1, w2⟩
theorem open_claim {r : Reach} {b0 : Nat} {t ti ta : TypeId} {f0 f1 : Field} {v : Value} {d : DataW H} {p : List MemPlace} (ht : P.underlying t = some (.struct #[f0, f1])) (e0 : f0.type = ti) (e1 : f1.type = ta) (o0 : f0.offset = 0) (o1 : f1.offset = 1)
    (hi : P.underlying ti = some (.int .i64)) (hci : P.cellsOf ti = 1) (ha : P.underlying ta = some (.array 3 ti)) (hca : P.cellsOf ta = 3) (hct : P.cellsOf t = 4)
    (hv : Value.okWide P w r b0 t v) (h : DataW.Trod enc P w base spare held t v d p) : ∃ c : Cd, v = c.val ∧ wfc c := by
  obtain ⟨cs, rfl, hsz, _⟩ : ∃ cs, v = .agg cs ∧ cs.size = P.cellsOf t ∧ Row.okWide P w r b0 t cs := by simpa [Value.okWide, ht] using hv
  rw [hct] at hsz
  obtain ⟨l⟩ := cs
  obtain ⟨c0, c1, c2, c3, rfl⟩ := list4 l hsz
  obtain ⟨fuel, hf⟩ := h
  obtain ⟨c, hc, hw⟩ := cells_claim ht e0 e1 o0 o1 hi hci ha hca (c0 := c0) (c1 := c1) (c2 := c2) (c3 := c3) hf
  refine ⟨c, ?_, hw⟩
  rw [hc]; rfl
theorem open_claims {r : Reach} {b0 : Nat} {t a ti ta : TypeId} {f0 f1 : Field} {v : Value} {d : DataW H} {p : List MemPlace} (ht : P.underlying t = some (.slice a)) (hu : P.underlying a = some (.struct #[f0, f1])) (e0 : f0.type = ti) (e1 : f1.type = ta) (o0 : f0.offset = 0) (o1 : f1.offset = 1)
    (hi : P.underlying ti = some (.int .i64)) (hci : P.cellsOf ti = 1) (ha : P.underlying ta = some (.array 3 ti)) (hcta : P.cellsOf ta = 3) (hca : P.cellsOf a = 4)
    (hv : Value.okWide P w r b0 t v) (h : DataW.Trod enc P w base spare held t v d p) : ∃ (q : Option Addr) (n c : Nat) (l : List Cd), v = .slice q n c ∧ l.length = n ∧ n ≤ maxLen ∧ Rd w q (flat l) ∧ ∀ x ∈ l, wfc x := by
  obtain ⟨q, n, c, rfl⟩ := okWide_slice ht hv
  obtain ⟨fuel, hf⟩ := h
  rcases open_slice ht hf with ⟨hcs, _⟩ | ⟨ad, len, cap, m, k, D, Pl, hcs, _, hl, hm, hmm, _, hii⟩
  · simp [Value.cells] at hcs
    obtain ⟨rfl, rfl, rfl⟩ := hcs
    exact ⟨none, 0, 0, [], rfl, rfl, by omega, fun hp => by simp [flat] at hp, by simp⟩
  · simp [Value.cells] at hcs
    obtain ⟨rfl, rfl, rfl⟩ := hcs
    have hlm : n ≤ m := by rw [hmm]; split <;> omega
    have key : ∀ i, ∃ x : Cd, wfc x ∧ (i < n → ∀ j u, x.cells[j]? = some u → w.cell? ((ad.add (i * 4)).add j) = some u) := by
      intro i
      by_cases hin : i < n
      · obtain ⟨cs, hc, htr⟩ := hii i (by omega)
        rw [hca] at hc
        obtain ⟨_, hlen, hat⟩ := World.cells?_some hc
        obtain ⟨c0, c1, c2, c3, rfl⟩ := list4 cs (by simpa using hlen)
        obtain ⟨x, hx, hw⟩ := cells_claim hu e0 e1 o0 o1 hi hci ha hcta htr
        refine ⟨x, hw, fun _ j u hu => ?_⟩
        rw [← hx] at hu
        have hj : j < 4 := by have := (List.getElem?_eq_some_iff.1 hu).1; simpa using this
        rw [hat j hj]; exact hu
      · exact ⟨zero, wfc_zero, fun h => absurd h hin⟩
    obtain ⟨f, hF0⟩ := Classical.axiomOfChoice key
    have hF := fun i => (hF0 i).2
    have hW := fun i => (hF0 i).1
    refine ⟨some ad, n, c, (List.range n).map f, rfl, by simp, by omega, fun hp => ?_, fun x hx => by
      obtain ⟨i, _, rfl⟩ := List.mem_map.1 hx
      exact hW i⟩
    rw [flat_len] at hp
    have h0 : 0 < n := by simpa using hp
    obtain ⟨b, o, sp⟩ := ad
    have hspot : sp = none := by
      have := hF 0 h0 0 _ rfl
      simpa [Addr.add] using World.cell?_spot this
    subst hspot
    have hc : ∀ j u, (flat ((List.range n).map f))[j]? = some u → w.cell? ⟨b, o + j, none⟩ = some u := by
      intro j u hu
      have hj : j < n * 4 := by
        have := (List.getElem?_eq_some_iff.1 hu).1
        rw [flat_len] at this
        simp at this; omega
      have hx : ((List.range n).map f)[j / 4]? = some (f (j / 4)) := by simp [show j / 4 < n by omega]
      obtain ⟨h0, h1, h2, h3⟩ := flat_at _ _ _ hx
      have hG := hF (j / 4) (by omega) (j % 4) u (by
        rcases (show j % 4 = 0 ∨ j % 4 = 1 ∨ j % 4 = 2 ∨ j % 4 = 3 by omega) with h | h | h | h
        · rw [show j = 4 * (j / 4) by omega, h0] at hu; rw [h]; exact hu
        · rw [show j = 4 * (j / 4) + 1 by omega, h1] at hu; rw [h]; exact hu
        · rw [show j = 4 * (j / 4) + 2 by omega, h2] at hu; rw [h]; exact hu
        · rw [show j = 4 * (j / 4) + 3 by omega, h3] at hu; rw [h]; exact hu)
      rw [add_plain, add_plain] at hG
      rw [show o + j = o + j / 4 * 4 + j % 4 by omega]
      exact hG
    refine ⟨b, o, rfl, ?_, hc⟩
    obtain ⟨u, hu⟩ : ∃ u, (flat ((List.range n).map f))[0]? = some u := ⟨_, List.getElem?_eq_getElem (by rw [flat_len]; exact hp)⟩
    exact block_lt_of_cell (hc 0 u hu)
/-- A Game that comes in. -/
theorem open_game {r : Reach} {b0 : Nat} {t td ti ts tn a e : TypeId} {h0 h1 h2 f0 f1 f2 : Field} {v : Value} {d : DataW H} {p : List MemPlace} (ht : P.underlying t = some (.struct #[h0, h1, h2])) (te0 : h0.type = td) (te1 : h1.type = tn) (te2 : h2.type = tn) (to0 : h0.offset = 0) (to1 : h1.offset = 3) (to2 : h2.offset = 4)
    (htd : P.underlying td = some (.struct #[f0, f1, f2])) (e0 : f0.type = ti) (e1 : f1.type = ti) (e2 : f2.type = ts) (o0 : f0.offset = 0) (o1 : f1.offset = 1) (o2 : f2.offset = 2)
    (hi : P.underlying ti = some (.int .i64)) (hci : P.cellsOf ti = 1) (hs : P.underlying ts = some (.slice a)) (hcs : P.cellsOf ts = 1) (ha : P.underlying a = some (.array 4 e)) (he : P.underlying e = some (.int .i64)) (hce : P.cellsOf e = 1) (hca : P.cellsOf a = 4) (htn : P.underlying tn = some (.slice ti)) (hcn : P.cellsOf tn = 1) (hcd : P.cellsOf td = 3) (hct : P.cellsOf t = 5)
    (hv : Value.okWide P w r b0 t v) (h : DataW.Trod enc P w base spare held t v d p) : ∃ (s nx : Int) (q : Option Addr) (n c : Nat) (l : List Cd) (qs : Option Addr) (ns ks : Nat) (sc : List Int) (qw : Option Addr) (nw kw : Nat) (wr : List Int), v = .agg #[.int .i64 s, .int .i64 nx, .slice q n c, .slice qs ns ks, .slice qw nw kw] ∧ (l.length = n ∧ n ≤ maxLen ∧ Rd w q (flat l) ∧ (∀ x ∈ l, wfc x) ∧ (Lit.int .i64 s).wf = true ∧ (Lit.int .i64 nx).wf = true ∧ sc.length = ns ∧ ns ≤ maxLen ∧ Rd w qs (ints sc) ∧ wfI sc ∧ wr.length = nw ∧ nw ≤ maxLen ∧ Rd w qw (ints wr) ∧ wfI wr) := by
  obtain ⟨cs, rfl, hsz, _⟩ : ∃ cs, v = .agg cs ∧ cs.size = P.cellsOf t ∧ Row.okWide P w r b0 t cs := by simpa [Value.okWide, ht] using hv
  rw [hct] at hsz
  obtain ⟨l⟩ := cs
  obtain ⟨c0, c1, c2, c3, c4, rfl⟩ : ∃ c0 c1 c2 c3 c4, l = [c0, c1, c2, c3, c4] := by
    match l, hsz with
    | [x, y, z, u, v], _ => exact ⟨x, y, z, u, v, rfl⟩
  obtain ⟨fuel, hf⟩ := h
  obtain ⟨xs, n, _, hx, hl, hlen, hff⟩ := DataW.trod_struct ht hf
  match xs, hlen with
  | [y0, y1, y2], _ =>
    have g0 := hff 0 h0 rfl
    have g1 := hff 1 h1 rfl
    have g2 := hff 2 h2 rfl
    simp [te0, te1, te2, to0, to1, to2, hcd, hcn, Value.cells] at g0 g1 g2
    obtain ⟨zs, n', _, hx', hl', hlen', hff'⟩ := DataW.trod_struct htd g0
    match zs, hlen' with
    | [z0, z1, z2], _ =>
      have k0 := hff' 0 f0 rfl
      have k1 := hff' 1 f1 rfl
      have k2 := hff' 2 f2 rfl
      simp [e0, e1, e2, o0, o1, o2, hci, hcs] at k0 k1 k2
      obtain ⟨s, es, rfl, ws⟩ := DataW.trod_int hi k0
      obtain ⟨nx, en, rfl, wn⟩ := DataW.trod_int hi k1
      obtain ⟨q, n, c, l, eq, hn, hm, hr, hw⟩ := open_cards hs ha he hce hca k2
      obtain ⟨qs, ns, ks, sc, eqs, hns, hms, hrs, hws⟩ := cells_ints htn hi hci g1
      obtain ⟨qw, nw, kw, wr, eqw, hnw, hmw, hrw, hww⟩ := cells_ints htn hi hci g2
      simp at es en eq eqs eqw
      subst es en eq eqs eqw
      exact ⟨s, nx, q, n, c, l, qs, ns, ks, sc, qw, nw, kw, wr, rfl, hn, hm, hr, hw, ws, wn, hns, hms, hrs, hws, hnw, hmw, hrw, hww⟩
end
end Go.Proofs.Ytjanphcfflahkaa.frame
