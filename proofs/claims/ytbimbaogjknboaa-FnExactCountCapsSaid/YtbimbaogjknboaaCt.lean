/- The cards at some places, as the program takes them. -/
import Derived.Test.YtbimbaogjknboaaVm
import Derived.Test.YtbimbaogjknboaaAt
namespace Go.Proofs.Ytbimbaogjknboaa.cards
open Go.RowKit
set_option linter.unusedVariables false

theorem pick_at {l : List Cd} : ∀ {ps : List Int}, (∀ p ∈ ps, 0 ≤ p ∧ p < l.length) → ∀ {k : Nat} {p : Int}, ps[k]? = some p → (pick l ps)[k]? = l[p.toNat]?
  | [], _, k, p, h => by simp at h
  | q :: r, hi, k, p, h => by
    have hq := hi q (by simp)
    have hx : l[q.toNat]? = some (l[q.toNat]'(by omega)) := List.getElem?_eq_getElem (by omega)
    have e : pick l (q :: r) = (l[q.toNat]'(by omega)) :: pick l r := by unfold pick; rw [List.filterMap_cons, hx]
    rw [e]
    cases k with
    | zero => simp at h; subst h; rw [hx]; rfl
    | succ k => simp at h; simp; exact pick_at (fun p hp => hi p (by simp [hp])) h

set_option maxRecDepth 100000 in
set_option maxHeartbeats 2000000 in
theorem cards_at (l : List Cd) (ps : List Int) (p q : Option Addr) (n cp m cq : Nat) (w : World) (hn : l.length = n) (hl : n ≤ 1000) (hm : ps.length = m) (hml : m ≤ 1000) (hr : Rd w p (flat l)) (hq : Rd w q (ints ps)) (hin : ∀ i ∈ ps, 0 ≤ i ∧ i < l.length) (hpl : (pick l ps).length = m) :
    Calls Try.prog 102 #[.slice p n cp, .slice q m cq] w fun e w' => ∃ u, e = .returned u ∧ Own w' w.heap.size u (pick l ps) ∧ Below w.heap.size w w' := by
  have HN := Lib.hid hn
  have HM := Lib.hid hm
  have HR0 := Lib.hid hr
  have HQ0 := Lib.hid hq
  have HI := Lib.hid hin
  have HPl := Lib.hid hpl
  have hmk := made m (by omega)
  clear hn hm hr hq hin hpl
  go_enter Try.func102, Try.ntmps102
  go_wp2_with fail
  clear hmk
  go_loopw [6, 7, 13] (fun _ _ i wr => ∃ k : Nat, k ≤ m ∧ i = .int .i64 k ∧ Hid (Own wr w.heap.size (.slice (some ⟨w.heap.size, 0, none⟩) m m) (part (pick l ps) m k)) ∧ Hid (Below w.heap.size w wr)) (fun _ _ i _ => m - (intOf i).toNat)
  case atStart => exact ⟨0, Nat.zero_le _, rfl, by rw [part_zero]; exact own_made w m (by omega), (Below.refl _ _).alloc (Nat.le_refl _) _⟩
  case round =>
    obtain ⟨k, hk, rfl, HO, HB⟩ := hrel
    by_cases hlt : k < m
    · have HR := Lib.hid (HR0.out.below HB.out)
      obtain ⟨b2, o2, pi, rfl, hb2, hpi, e0⟩ := (HQ0.out.below HB.out).int (k := k) (by rw [HM.out]; exact hlt)
      obtain ⟨i0, i1⟩ := HI.out pi (List.mem_of_getElem? hpi)
      obtain ⟨j, rfl⟩ : ∃ j : Nat, pi = (j : Int) := ⟨pi.toNat, by omega⟩
      have hjn : j < n := by have := HN.out; omega
      obtain ⟨b, o, x, rfl, hb, hx, c0, c1, c2, c3⟩ := HR.out.card (k := j) (by rw [HN.out]; exact hjn)
      have hat := pick_at HI.out hpi
      rw [Int.toNat_natCast, hx] at hat
      have HX := Lib.hid hat
      have m0 : (0 : Int) ≤ (k : Int) := by omega
      have m1 : (k : Int) < (m : Int) := by omega
      have m2 : (0 : Int) ≤ (j : Int) := by omega
      have m3 : (j : Int) < (n : Int) := by omega
      have HP := Lib.hid (part_set (n := m) HPl.out hlt HX.out)
      obtain ⟨y, hy, d0, d1, d2, d3, hf, hB, hg⟩ := HO.out.slots (part_len HPl.out hk) k hlt
      have hz := HB.out.size
      have HS := Lib.hid (HO.out.store (part_len HPl.out hk) k hlt x)
      rw [HP.out] at HS
      clear hy hpi hx hat HO i0 i1
      go_wp2_with fail
      go_roundw
      case rel => exact ⟨k + 1, by omega, by go_num, HS, Lib.hid (by repeat (first | with_reducible exact Below.refl _ _ | with_reducible exact HB.out | with_reducible apply Below.drew | with_reducible apply bdN | with_reducible refine Below.alloc ?_ (by first | exact Nat.le_refl _ | (simp; done) | (simp; omega) | (have := HB.out.size; simp at *; omega)) _ | with_reducible refine Below.setCell ?_ (by first | exact Nat.le_refl _ | (simp; done) | (simp; omega) | (have := HB.out.size; simp at *; omega)) _))⟩
      case measure => simp [intOf]; omega
    · obtain rfl : k = m := by omega
      rw [part_all HPl.out] at HO
      go_wp2_with fail
      go_ret
      exact ⟨_, rfl, HO.out, HB.out⟩
end Go.Proofs.Ytbimbaogjknboaa.cards
