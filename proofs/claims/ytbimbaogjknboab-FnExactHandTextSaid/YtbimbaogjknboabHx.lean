/- HandText: the program. -/
import Derived.Test.YtbimbaogjknboabHw
import Derived.Test.YtbimbaogjknboabShelf
namespace Go.Proofs.Ytbimbaogjknboab.cards
open Go.RowKit
set_option linter.unusedVariables false

theorem str_info : ((Try.prog).info? 9).map (fun i => (i.zero, i.size, i.bytes)) = some (some (.string ⟨#[]⟩), 1, 16) := by kernel_rfl
/-- A new row of n texts. -/
theorem made_strs (n : Nat) (hn : n ≤ 1000000000) (w : World) : (Instr.makeSlice 22 (.int .i64 n) (.int .i64 n)).run Try.prog w = .ok (.slice (some ⟨w.heap.size, 0, none⟩) n n) (w.alloc (.cells (madeCells (Value.string ⟨#[]⟩).cells n) 9)) := by
  obtain ⟨i, hi, hz, hs, hb⟩ := info_parts str_info
  have h := run_make (P := Try.prog) w 22 9 i _ Try.underlying22 hi hz .i64 .i64 n n (by omega) (by omega) (by rw [hb]; omega) (by omega)
  rw [hs] at h
  simpa using h

theorem join_texts (l : List Cd) (g n : Nat) (cs : Array Value) (w : World) (hn : l.length = n) (hl : n ≤ 81) (hg : w.heap[g]? = some (.cells cs 9))
    (hx : ∀ j, j < n → cs[j]? = (l[j]?).map (fun x => Value.string (txt x))) :
    Calls Try.prog 88 #[.slice (some ⟨g, 0, none⟩) n n, .string ⟨#[32]⟩] w fun e w' => e = .returned (.string (hT l)) ∧ Below w.heap.size w w' := by
  have h := Try.strings_Join g 0 n (l.map txt) ⟨#[32]⟩ w (fun j y hy => by
      rw [List.getElem?_map] at hy
      have hj : j < n := by
        rw [← hn]
        cases hq : l[j]? with
        | none => rw [hq] at hy; simp at hy
        | some z => exact (List.getElem?_eq_some_iff.1 hq).1
      rw [Nat.zero_add, cell_of_row w g j cs _ _ hg, hx j hj]
      cases hq : l[j]? with
      | none => rw [hq] at hy; simp at hy
      | some z => rw [hq] at hy; simp at hy; subst hy; rfl)
    (Array.getElem?_eq_some_iff.1 hg).1 (by rw [List.length_map]; omega) (by rw [List.length_map]; omega)
    (by have h1 := jn_len l; unfold jn at h1; show (Lib.join ((l.map txt).map (·.data.toList)) [32]).length ≤ _; omega)
  rw [List.length_map, hn] at h
  exact h

set_option maxRecDepth 100000 in
set_option maxHeartbeats 4000000 in
theorem impl_htext (l : List Cd) (p : Option Addr) (n cp : Nat) (w : World) (hn : l.length = n) (hl : n ≤ 1000000000) (hr : Rd w p (flat l)) (hcp : n ≤ cp) :
    Calls Try.prog 34 #[.slice p n cp] w fun e w' => e = .returned (.tuple #[.string (htR l).1, .bool (htR l).2]) ∧ Below w.heap.size w w' := by
  have HN := Lib.hid hn
  have HR0 := Lib.hid hr
  have HR := Lib.hid hr
  clear hn hr
  go_enter Try.func34, Try.ntmps34
  go_wp2_with fail
  refine ((is_hand l p n cp _ HN.out hl (by repeat (first | with_reducible exact HR.out | with_reducible apply Rd.drewN | with_reducible apply Rd.drew | with_reducible apply Rd.alloc)))).mono ?_
  rintro e w1 ⟨rfl, b⟩
  have Sw1 := Lib.hid b.size
  have HB := Lib.hid (chain0 (w := w) (by repeat (first | with_reducible exact Below.refl _ _ | with_reducible exact HB.out | with_reducible apply Below.drew | with_reducible apply bdN | with_reducible refine Below.alloc ?_ (by first | exact Nat.le_refl _ | (simp; done) | (simp; omega) | (have := HB.out.size; simp at *; omega)) _ | with_reducible refine Below.setCell ?_ (by first | exact Nat.le_refl _ | (simp; done) | (simp; omega) | (have := HB.out.size; simp at *; omega)) _)) b)
  have HR := Lib.hid (Rd.below (by repeat (first | with_reducible exact HR.out | with_reducible apply Rd.drewN | with_reducible apply Rd.drew | with_reducible apply Rd.alloc)) b)
  clear b
  cases hh : handB l
  · have HT := Lib.hid (show htR l = (⟨#[]⟩, false) by unfold htR; rw [if_neg (by simp [hh])])
    go_wp2_with fail
    go_ret2
    exact ⟨ret_sb (by rw [HT.out]), by repeat (first | with_reducible exact Below.refl _ _ | with_reducible exact HB.out | with_reducible apply Below.drew | with_reducible apply bdN | with_reducible refine Below.alloc ?_ (by first | exact Nat.le_refl _ | (simp; done) | (simp; omega) | (have := HB.out.size; simp at *; omega)) _ | with_reducible refine Below.setCell ?_ (by first | exact Nat.le_refl _ | (simp; done) | (simp; omega) | (have := HB.out.size; simp at *; omega)) _)⟩
  · have HT := Lib.hid (show htR l = (hT l, true) by unfold htR; rw [if_pos hh])
    have HH := Lib.hid (handB_true.1 hh)
    have h81 : n ≤ 81 := by have := HH.out.1; have := HN.out; omega
    have hz1 : w.heap.size ≤ w1.heap.size := HB.out.size
    have hmk := made_strs n (by omega)
    have HB1 := Lib.hid HB.out
    clear hh
    go_wp2_with fail
    clear hmk
    go_loopw [5, 6, 15] (fun _ _ i wr => ∃ (k : Nat) (cs : Array Value), k ≤ n ∧ i = .int .i64 k ∧ Hid (cs.size = n) ∧ Hid (wr.heap[w1.heap.size]? = some (.cells cs 9)) ∧ Hid (∀ j, j < k → cs[j]? = (l[j]?).map (fun x => Value.string (txt x))) ∧ Hid (Below w.heap.size w wr)) (fun _ _ i _ => n - (intOf i).toNat)
    case atStart => exact ⟨0, _, Nat.zero_le _, rfl, Lib.hid (size_madeCells _ _), Lib.hid (heap_alloc_new w1 _), Lib.hid (fun j hj => absurd hj (Nat.not_lt_zero _)), Lib.hid (HB1.out.alloc hz1 _)⟩
    case round =>
      clear HB HR
      obtain ⟨k, cs, hk, rfl, Hsz, HG, HX, HB⟩ := hrel
      by_cases hlt : k < n
      · have HR := Lib.hid (HR0.out.below HB.out)
        obtain ⟨b, o, x, rfl, hb, hx, c0, c1, c2, c3⟩ := HR.out.card (k := k) (by rw [HN.out]; exact hlt)
        have HXk := Lib.hid (ok_at HH.out.2.1 hx)
        have HXe := Lib.hid hx
        have m0 : (0 : Int) ≤ (k : Int) := by omega
        have m1 : (k : Int) < (n : Int) := by omega
        have hgl : w1.heap.size < wr.heap.size := (Array.getElem?_eq_some_iff.1 HG.out).1
        obtain ⟨old, hold⟩ : ∃ old, cs[k]? = some old := ⟨cs[k]'(by rw [Hsz.out]; exact hlt), Array.getElem?_eq_getElem _⟩
        have HOld := Lib.hid hold
        clear hx hold
        go_wp2_with fail
        refine (text_of x _ HXk.out).mono ?_
        rintro e w2 ⟨rfl, b⟩
        have hgb : w2.heap[w1.heap.size]? = some (.cells cs 9) := (b.block w1.heap.size (by simp; omega)).trans ((Below.heap_alloc wr _ w1.heap.size hgl).trans HG.out)
        have hc : w2.cell? ⟨w1.heap.size, k, none⟩ = some old := (cell_of_row w2 w1.heap.size k _ _ _ hgb).trans HOld.out
        have hf : w2.frozen? ⟨w1.heap.size, k, none⟩ = false := frozen_of_row w2 w1.heap.size k _ _ hgb
        have HGb := Lib.hid hgb
        clear hgb
        have Sw2 := Lib.hid b.size
        have HB := Lib.hid (chain0 (w := w) (by repeat (first | with_reducible exact Below.refl _ _ | with_reducible exact HB.out | with_reducible apply Below.drew | with_reducible apply bdN | with_reducible refine Below.alloc ?_ (by first | exact Nat.le_refl _ | (simp; done) | (simp; omega) | (have := HB.out.size; simp at *; omega)) _ | with_reducible refine Below.setCell ?_ (by first | exact Nat.le_refl _ | (simp; done) | (simp; omega) | (have := HB.out.size; simp at *; omega)) _)) b)
        have HR := Lib.hid (Rd.below (by repeat (first | with_reducible exact HR.out | with_reducible apply Rd.drewN | with_reducible apply Rd.drew | with_reducible apply Rd.alloc)) b)
        clear b
        go_wp2_with fail
        go_roundw
        case rel => exact ⟨k + 1, _, by omega, by go_num, Lib.hid (by rw [Array.size_setIfInBounds]; exact Hsz.out), Lib.hid (heap_setCell_same w2 w1.heap.size k cs _ _ HGb.out), Lib.hid (fun j hj => by
          rw [Array.getElem?_setIfInBounds]
          by_cases e : k = j
          · subst e
            rw [if_pos rfl, if_pos (by rw [Hsz.out]; exact hlt), HXe.out]; rfl
          · rw [if_neg e]; exact HX.out j (by omega)), Lib.hid (by repeat (first | with_reducible exact Below.refl _ _ | with_reducible exact HB.out | with_reducible apply Below.drew | with_reducible apply bdN | with_reducible refine Below.alloc ?_ (by first | exact Nat.le_refl _ | (simp; done) | (simp; omega) | (have := HB.out.size; simp at *; omega)) _ | with_reducible refine Below.setCell ?_ (by first | exact Nat.le_refl _ | (simp; done) | (simp; omega) | (have := HB.out.size; simp at *; omega)) _))⟩
        case measure => simp [intOf]; omega
      · obtain rfl : k = n := by omega
        go_wp2_with fail
        refine (join_texts l _ _ cs _ HN.out h81 HG.out HX.out).mono ?_
        rintro e w2 ⟨rfl, b⟩
        have HB2 := Lib.hid (chain0 HB.out b)
        clear b
        go_wp2_with fail
        go_ret2
        exact ⟨ret_sb (by rw [HT.out]), HB2.out⟩
end Go.Proofs.Ytbimbaogjknboab.cards
