/- A slice of bytes that comes in. -/
import Derived.Test.YtnibkipepmakgaaFr
import Derived.Test.YtnibkipepmakgaaKa
import Derived.ChangeSlices
namespace Go.Proofs.Ytnibkipepmakgaa.frame
open Go.ChangeShapes Go.WideShapes Go.ChangeAt Go.RowKit Go.Deep
open cards draw
set_option linter.unusedVariables false

section
variable {H : Type} {enc : TypeId × Value → H} {P : Program} {w : World} {base : Nat} {spare : Nat → Bool} {held : Bool}
theorem open_bytes {r : Reach} {b0 : Nat} {t e : TypeId} {v : Value} {d : DataW H} {p : List MemPlace} (ht : P.underlying t = some (.slice e)) (he : P.underlying e = some (.int .u8)) (hce : P.cellsOf e = 1)
    (hv : Value.okWide P w r b0 t v) (h : DataW.Trod enc P w base spare held t v d p) : ∃ (q : Option Addr) (n c : Nat) (l : List Int), v = .slice q n c ∧ (l.length = n ∧ n ≤ maxLen ∧ isByte l ∧ Rd w q (bys l)) := by
  obtain ⟨q, n, c, rfl⟩ := okWide_slice ht hv
  obtain ⟨fuel, hf⟩ := h
  rcases open_ints ht he hce hf with ⟨hcs, _⟩ | ⟨ad, len, cap, zs, hcs, _, hl, hm, hss, _, hi, hz⟩
  · simp [Value.cells] at hcs
    obtain ⟨rfl, rfl, rfl⟩ := hcs
    exact ⟨none, 0, 0, [], rfl, rfl, by omega, fun x hx => by simp at hx, fun hp => by simp at hp⟩
  · simp [Value.cells] at hcs
    obtain ⟨rfl, rfl, rfl⟩ := hcs
    have hlm : n ≤ zs.length := by rw [hss]; split <;> omega
    refine ⟨some ad, n, c, zs.take n, rfl, by rw [List.length_take]; omega, by omega, fun x hx => ?_, fun hp => ?_⟩
    · have h := hz x (List.mem_of_mem_take hx)
      have h2 := bounds_u8 h
      omega
    · simp only [List.length_map, List.length_take] at hp
      obtain ⟨b, o, sp⟩ := ad
      have hat : ∀ j v, (bys (zs.take n))[j]? = some v → w.cell? ((⟨b, o, sp⟩ : Addr).add j) = some v := by
        intro j v hv
        have hj : j < n := by
          have := (List.getElem?_eq_some_iff.1 hv).1
          simp only [List.length_map, List.length_take] at this; omega
        simp only [List.getElem?_map, List.getElem?_take, if_pos hj, List.getElem?_eq_getElem (show j < zs.length by omega), Option.map_some, Option.some.injEq] at hv
        subst hv
        have := hi j (by omega)
        rw [List.getD_eq_getElem?_getD, List.getElem?_eq_getElem (by omega)] at this
        exact this
      obtain ⟨v0, hv0⟩ : ∃ v0, (bys (zs.take n))[0]? = some v0 := ⟨_, List.getElem?_eq_getElem (by simp only [List.length_map, List.length_take]; omega)⟩
      have hspot : sp = none := by
        have := hat 0 v0 hv0
        simpa [Addr.add] using World.cell?_spot this
      subst hspot
      have hc : ∀ j v, (bys (zs.take n))[j]? = some v → w.cell? ⟨b, o + j, none⟩ = some v := by
        intro j v hv
        have := hat j v hv
        rw [add_plain] at this
        exact this
      exact ⟨b, o, rfl, block_lt_of_cell (hc 0 v0 hv0), hc⟩
end
end Go.Proofs.Ytnibkipepmakgaa.frame
