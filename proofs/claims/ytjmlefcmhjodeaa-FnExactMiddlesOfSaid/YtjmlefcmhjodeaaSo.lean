/- SortCards: the program. -/
import Derived.Test.YtjmlefcmhjodeaaGw
import Derived.Test.YtjmlefcmhjodeaaPm
import Derived.Test.YtjmlefcmhjodeaaNo
import Derived.Deep.WholeRow
import Derived.Deep.MidRow
namespace Go.Proofs.Ytjmlefcmhjodeaa.cards
open Go.RowKit
set_option linter.unusedVariables false

/-- Block g is a row of 81 truth values. -/
def Row (w : World) (g : Nat) (f : Nat → Bool) : Prop := ∃ cs, w.heap[g]? = some (.cells cs 93) ∧ cs.size = 81 ∧ ∀ i, i < 81 → cs[i]? = some (.bool (f i))
theorem Row.lt {w : World} {g : Nat} {f : Nat → Bool} (h : Row w g f) : g < w.heap.size := by obtain ⟨cs, h1, _⟩ := h; exact (Array.getElem?_eq_some_iff.1 h1).1
theorem Row.below {w w1 : World} {g : Nat} {f : Nat → Bool} (h : Row w g f) (b : Below w.heap.size w w1) : Row w1 g f := by
  have hlt := h.lt
  obtain ⟨cs, h1, h2⟩ := h
  exact ⟨cs, (b.block g hlt).trans h1, h2⟩
theorem Row.alloc {w : World} {g : Nat} {f : Nat → Bool} (h : Row w g f) (o : Obj) : Row (w.alloc o) g f := by
  have hlt := h.lt
  obtain ⟨cs, h1, h2⟩ := h
  exact ⟨cs, (Below.heap_alloc w o g hlt).trans h1, h2⟩
theorem Row.drew {w : World} {g : Nat} {f : Nat → Bool} (h : Row w g f) : Row w.drew g f := h
theorem Row.drewN {w : World} {g : Nat} {f : Nat → Bool} (h : Row w g f) (n : Nat) : Row (w.drewN n) g f := h
theorem Row.cell {w : World} {g : Nat} {f : Nat → Bool} (h : Row w g f) {i : Nat} (hi : i < 81) : w.cell? ⟨g, i, none⟩ = some (.bool (f i)) := by
  obtain ⟨cs, h1, h2, h3⟩ := h
  exact (cell_of_row w g i _ _ _ h1).trans (h3 i hi)
theorem Row.frozen {w : World} {g : Nat} {f : Nat → Bool} (h : Row w g f) (i : Nat) : w.frozen? ⟨g, i, none⟩ = false := by
  obtain ⟨cs, h1, _⟩ := h
  exact frozen_of_row w g i _ _ h1
theorem Row.ext {w : World} {g : Nat} {f f' : Nat → Bool} (h : Row w g f) (hf : ∀ i, i < 81 → f i = f' i) : Row w g f' := by
  obtain ⟨cs, h1, h2, h3⟩ := h
  exact ⟨cs, h1, h2, fun i hi => by rw [h3 i hi, hf i hi]⟩
theorem Row.set {w : World} {g : Nat} {f : Nat → Bool} (h : Row w g f) {j : Nat} (hj : j < 81) : Row (w.setCell ⟨g, j, none⟩ (.bool true)) g (fun i => decide (i = j) || f i) := by
  obtain ⟨cs, h1, h2, h3⟩ := h
  have h4 : (w.setCell ⟨g, j, none⟩ (.bool true)).heap[g]? = some (.cells (cs.setIfInBounds j (.bool true)) 93) := heap_setCell_same w g j cs _ _ h1
  refine ⟨_, h4, by simp [h2], fun i hi => ?_⟩
  rw [Array.getElem?_setIfInBounds]
  by_cases e : j = i
  · subst e
    simp [h2, hj]
  · have e2 : ¬ i = j := fun h => e h.symm
    simp [e, e2, h3 i hi]

theorem index_row {cs : List Value} {j : Nat} {b : Bool} (h : cs[j]? = some (.bool b)) (hj : j < 81) (w : World) : (Instr.index 93 (.agg cs.toArray) (.int .i64 (j : Int))).run Try.prog w = .ok (.bool b) w := by
  obtain ⟨i, hi, hz, hs, hb⟩ := info_parts (show ((Try.prog).info? 4).map (fun i => (i.zero, i.size, i.bytes)) = some (some (.bool false), 1, 1) by kernel_rfl)
  have h81 : (j : Int) < 81 := by omega
  simp [Instr.index, asIntOf, run_underlying Try.underlying93, run_underlying Try.underlying4, sizeOf, typeInfo, hi, hs, h81, hj, Go.part, isAgg, h]

noncomputable def sortR (l : List Cd) : List Cd × Bool := if l.all Cd.ok = true ∧ (allPut l).length ≤ 27 then (allPut l, true) else ([], false)
theorem isIn_step {l : List Cd} {k j i : Nat} {x : Cd} (hx : l[k]? = some x) (hj : num x = (j : Int)) (hi : i < 81) : (decide (i = j) || isIn (l.take k) (cdAt (i : Int))) = isIn (l.take (k + 1)) (cdAt (i : Int)) := by
  have hn : num (cdAt (i : Int)) = (i : Int) := cdAt_num (by omega) (by omega)
  unfold isIn
  rw [take_snoc hx, Bool.eq_iff_iff, Bool.or_eq_true, decide_eq_true_eq, decide_eq_true_eq, decide_eq_true_eq, hn]
  constructor
  · rintro (h | ⟨y, hy, h⟩)
    · exact ⟨x, by simp, by omega⟩
    · exact ⟨y, by simp [hy], h⟩
  · rintro ⟨y, hy, h⟩
    rcases List.mem_append.1 hy with hy | hy
    · exact .inr ⟨y, hy, h⟩
    · simp at hy; subst hy; exact .inl (by omega)

set_option maxRecDepth 100000 in
set_option maxHeartbeats 4000000 in
theorem impl_sort (l : List Cd) (p : Option Addr) (n cp : Nat) (w : World) (hn : l.length = n) (hl : n ≤ 1000000000) (hr : Rd w p (flat l)) :
    Calls Try.prog 54 #[.slice p n cp] w fun e w' => ∃ u, e = .returned (.tuple #[u, .bool (sortR l).2]) ∧ Own w' w.heap.size u (sortR l).1 ∧ Below w.heap.size w w' := by
  have HN := Lib.hid hn
  have HR := Lib.hid hr
  have HR0 := Lib.hid hr
  clear hn hr
  go_enter Try.func54, Try.ntmps54
  go_wp2_with fail
  refine ((are_cards l p n cp _ HN.out hl (by repeat (first | with_reducible exact HR.out | with_reducible apply Rd.drewN | with_reducible apply Rd.drew | with_reducible apply Rd.alloc)))).mono ?_
  rintro e w1 ⟨rfl, b⟩
  have Sw1 := Lib.hid b.size
  have HB := Lib.hid (chain0 (w := w) (by repeat (first | with_reducible exact Below.refl _ _ | with_reducible exact HB.out | with_reducible apply Below.drew | with_reducible apply bdN | with_reducible refine Below.alloc ?_ (by first | exact Nat.le_refl _ | with_reducible exact HB.out.size | omega | (simp; done) | (simp; omega) | (have := HB.out.size; simp at *; omega)) _ | with_reducible refine Below.setCell ?_ (by first | exact Nat.le_refl _ | with_reducible exact HB.out.size | omega | (simp; done) | (simp; omega) | (have := HB.out.size; simp at *; omega)) _)) b)
  have HR := Lib.hid (Rd.below (by repeat (first | with_reducible exact HR.out | with_reducible apply Rd.drewN | with_reducible apply Rd.drew | with_reducible apply Rd.alloc)) b)
  clear b
  cases hh : l.all Cd.ok
  · have HT := Lib.hid (show sortR l = ([], false) by unfold sortR; rw [if_neg (by simp [hh])])
    go_wp2_with fail
    go_ret2
    exact ⟨_, ret_two (by rw [HT.out]), by rw [HT.out]; exact Own.empty _ _ HB.out.size, by repeat (first | with_reducible exact Below.refl _ _ | with_reducible exact HB.out | with_reducible apply Below.drew | with_reducible apply bdN | with_reducible refine Below.alloc ?_ (by first | exact Nat.le_refl _ | with_reducible exact HB.out.size | omega | (simp; done) | (simp; omega) | (have := HB.out.size; simp at *; omega)) _ | with_reducible refine Below.setCell ?_ (by first | exact Nat.le_refl _ | with_reducible exact HB.out.size | omega | (simp; done) | (simp; omega) | (have := HB.out.size; simp at *; omega)) _)⟩
  · have HK := Lib.hid hh
    have hst := run_storeCells_new (P := Try.prog) w1 93 Try.zeroCells93 Try.zeroCells93 (by kernel_rfl) rfl (by kernel_rfl)
    have HW : Hid (Row (w1.alloc (.cells Try.zeroCells93 93)) w1.heap.size (fun _ => false)) := Lib.hid ⟨_, heap_alloc_new w1 _, by kernel_rfl, fun i hi => by
      have : Try.zeroCells93 = Array.replicate 81 (.bool false) := by kernel_rfl
      rw [this]; simp [hi]⟩
    clear hh
    go_wp2_with fail
    clear hst
    go_loopw [6, 17] (fun _ i wr => ∃ k : Nat, k ≤ n ∧ i = .int .i64 k ∧ Hid (Row wr w1.heap.size (fun i => isIn (l.take k) (cdAt (i : Int)))) ∧ Hid (Below w.heap.size w wr)) (fun _ i _ => n - (intOf i).toNat)
    case atStart => exact ⟨0, Nat.zero_le _, rfl, Lib.hid (HW.out.ext (fun i _ => by simp [isIn])), Lib.hid (by repeat (first | with_reducible exact Below.refl _ _ | with_reducible exact HB.out | with_reducible apply Below.drew | with_reducible apply bdN | with_reducible refine Below.alloc ?_ (by first | exact Nat.le_refl _ | with_reducible exact HB.out.size | omega | (simp; done) | (simp; omega) | (have := HB.out.size; simp at *; omega)) _ | with_reducible refine Below.setCell ?_ (by first | exact Nat.le_refl _ | with_reducible exact HB.out.size | omega | (simp; done) | (simp; omega) | (have := HB.out.size; simp at *; omega)) _))⟩
    case round =>
      clear HB HR HW
      obtain ⟨k, hk, rfl, HW, HB⟩ := hrel
      by_cases hlt : k < n
      · have HR := Lib.hid (HR0.out.below HB.out)
        obtain ⟨b, o, x, rfl, hb, hx, c0, c1, c2, c3⟩ := HR.out.card (k := k) (by rw [HN.out]; exact hlt)
        have HXa := Lib.hid hx
        have HX := Lib.hid (ok_at HK.out hx)
        have m0 : (0 : Int) ≤ (k : Int) := by omega
        have m1 : (k : Int) < (n : Int) := by omega
        obtain ⟨j, hj⟩ : ∃ j : Nat, num x = (j : Int) := ⟨(num x).toNat, by have := (num_bd HX.out).1; omega⟩
        have hj81 : j < 81 := by have := (num_bd HX.out).2; omega
        have HJ := Lib.hid hj
        have HNo := fun w => number_of x w HX.out
        rw [hj] at HNo
        have HN2 := Lib.hid HNo
        clear hx hj HNo
        go_wp2_with fail
        refine ((HN2.out _)).mono ?_
        rintro e w3 ⟨rfl, b⟩
        have Sw3 := Lib.hid b.size
        have HB := Lib.hid (chain0 (w := w) (by repeat (first | with_reducible exact Below.refl _ _ | with_reducible exact HB.out | with_reducible apply Below.drew | with_reducible apply bdN | with_reducible refine Below.alloc ?_ (by first | exact Nat.le_refl _ | with_reducible exact HB.out.size | omega | (simp; done) | (simp; omega) | (have := HB.out.size; simp at *; omega)) _ | with_reducible refine Below.setCell ?_ (by first | exact Nat.le_refl _ | with_reducible exact HB.out.size | omega | (simp; done) | (simp; omega) | (have := HB.out.size; simp at *; omega)) _)) b)
        have HW := Lib.hid (Row.below (by repeat (first | with_reducible exact HW.out | with_reducible apply Row.drewN | with_reducible apply Row.drew | with_reducible apply Row.alloc)) b)
        have K1 : Hid (Box _ (wr.heap.size) (x)) := Lib.hid (Box.below (by repeat (first | with_reducible exact K1.out | with_reducible apply Box.drewN | with_reducible apply Box.drew | (with_reducible refine Box.newAt ?_ ?_ <;> first | (simp; done) | rfl) | with_reducible apply Box.alloc)) b)
        try clear k1a k1b k1c k1d k1z
        have k1z := K1.out.lt
        obtain ⟨k1a, k1b, k1c, k1d⟩ := K1.out.cell
        clear b
        have hc := HW.out.cell hj81
        have hf := HW.out.frozen j
        have j0 : (0 : Int) ≤ (j : Int) := by omega
        have j1 : (j : Int) < 81 := by omega
        go_wp2_with fail
        go_roundw
        case rel => exact ⟨k + 1, by omega, by go_num, Lib.hid ((HW.out.set hj81).ext (fun i hi => isIn_step HXa.out HJ.out hi)), Lib.hid (HB.out.setCell (by have := Sw1.out; exact this) _)⟩
        case measure => simp [intOf]; omega
      · obtain rfl : k = n := by omega
        have HBs := Lib.hid HB.out.size
        obtain ⟨cs, hcs⟩ : ∃ cs : List Value, cs = (List.range 81).map (fun i : Nat => Value.bool (isIn (l.take k) (cdAt (i : Int)))) := ⟨_, rfl⟩
        have HCl := Lib.hid (show cs.length = 81 by rw [hcs]; simp)
        have HCa := Lib.hid (show ∀ i, i < 81 → cs[i]? = some (.bool (isIn (l.take k) (cdAt (i : Int)))) by intro i hi; rw [hcs]; simp [hi])
        clear hcs
        have HRg : Hid (World.rangeAt (wr.alloc (.cells #[] 25)) w1.heap.size 0 cs) := Lib.hid (fun j v hv => by
          have hj : j < 81 := by have := (List.getElem?_eq_some_iff.1 hv).1; rw [HCl.out] at this; exact this
          have h1 := HCa.out j hj
          rw [hv] at h1
          rw [h1, Nat.zero_add]
          exact (HW.out.alloc _).cell hj)
        have HO := Lib.hid (Own.empty wr w.heap.size HB.out.size)
        go_wp2_with fail
        refine wp_load_mid (P := Try.prog) 93 (.tmp 4) rfl w1.heap.size 0 rfl cs _ HRg.out Try.underlying93 rfl (by rw [HCl.out]; kernel_rfl) ?_
        go_wp2_with fail
        go_loopw [7, 8, 9, 27] (fun o _ _ i wq => ∃ j : Nat, j ≤ 81 ∧ i = .int .i64 j ∧ Hid (Own wq w.heap.size o (cdsOf (isIn (l.take k)) j)) ∧ Hid (Below w.heap.size w wq)) (fun _ _ _ i _ => 81 - (intOf i).toNat)
        case atStart => exact ⟨0, Nat.zero_le _, rfl, HO, Lib.hid (by repeat (first | with_reducible exact Below.refl _ _ | with_reducible exact HB.out | with_reducible apply Below.drew | with_reducible apply bdN | with_reducible refine Below.alloc ?_ (by first | exact Nat.le_refl _ | with_reducible exact HB.out.size | omega | (simp; done) | (simp; omega) | (have := HB.out.size; simp at *; omega)) _ | with_reducible refine Below.setCell ?_ (by first | exact Nat.le_refl _ | with_reducible exact HB.out.size | omega | (simp; done) | (simp; omega) | (have := HB.out.size; simp at *; omega)) _))⟩
        case round =>
          clear HO HRg HB HW
          obtain ⟨j, hj, rfl, HO, HB⟩ := hrel
          by_cases hjt : j < 81
          · have j0 : (0 : Int) ≤ (j : Int) := by omega
            have j1 : (j : Int) < 81 := by omega
            have hca := HCa.out j hjt
            have HL := Lib.hid (cdsOf_len (isIn (l.take k)) j)
            cases hq : isIn (l.take k) (cdAt (j : Int))
            · rw [hq] at hca
              have hix := fun w => index_row hca hjt w
              have HE := Lib.hid (cdsOf_no hq)
              clear hca hq
              go_wp2_with fail
              go_roundw
              case rel => exact ⟨j + 1, by omega, by go_num, by rw [HE.out]; exact HO, HB⟩
              case measure => simp [intOf]; omega
            · rw [hq] at hca
              have hix := fun w => index_row hca hjt w
              have HE := Lib.hid (cdsOf_yes hq)
              clear hca hq
              go_wp2_with fail
              refine ((card_of (j : Int) _ j0 (by omega))).mono ?_
              rintro e w5 ⟨rfl, b⟩
              have Sw5 := Lib.hid b.size
              have HB := Lib.hid (chain0 (w := w) (by repeat (first | with_reducible exact Below.refl _ _ | with_reducible exact HB.out | with_reducible apply Below.drew | with_reducible apply bdN | with_reducible refine Below.alloc ?_ (by first | exact Nat.le_refl _ | with_reducible exact HB.out.size | omega | (simp; done) | (simp; omega) | (have := HB.out.size; simp at *; omega)) _ | with_reducible refine Below.setCell ?_ (by first | exact Nat.le_refl _ | with_reducible exact HB.out.size | omega | (simp; done) | (simp; omega) | (have := HB.out.size; simp at *; omega)) _)) b)
              have HO := Lib.hid (Own.below (by repeat (first | with_reducible exact HO.out | with_reducible apply Own.drewN | with_reducible apply Own.drew | with_reducible apply Own.alloc)) b)
              clear b
              go_wp2_with (at_builtin; refine append_cd rfl (.tmp 32) (.tmp 35) rfl w.heap.size _ (cdsOf (isIn (l.take k)) j) (cdAt (j : Int)) _ _ rfl rfl rfl HO.out (by have := HL.out; omega) HB.out.size ?_; intro v1 w6 hO1 hB1)
              rw [← HE.out] at hO1
              go_roundw
              case rel => exact ⟨j + 1, by omega, by go_num, hO1, HB.out.trans hB1⟩
              case measure => simp [intOf]; omega
          · obtain rfl : j = 81 := by omega
            have HTk := Lib.hid (show l.take k = l by rw [← HN.out, List.take_length])
            have HE := Lib.hid (allPut_cds HK.out)
            rw [HTk.out, ← HE.out] at HO
            obtain ⟨p2, c2, rfl, _, _, _⟩ := HO.out.form
            obtain ⟨m, hm⟩ : ∃ m, (allPut l).length = m := ⟨_, rfl⟩
            have HM := Lib.hid hm
            rw [hm] at HO
            rw [hm]
            clear hm
            by_cases h27 : m ≤ 27
            · have HT := Lib.hid (show sortR l = (allPut l, true) by unfold sortR; rw [if_pos ⟨HK.out, by rw [HM.out]; exact h27⟩])
              have hd : ¬ (27 : Int) < (m : Int) := by omega
              go_wp2_with fail
              go_ret2
              exact ⟨_, ret_two (by rw [HT.out]), by rw [HT.out]; exact HO.out, HB.out⟩
            · have HT := Lib.hid (show sortR l = ([], false) by unfold sortR; rw [if_neg (fun h => h27 (by rw [← HM.out]; exact h.2))])
              have hd : (27 : Int) < (m : Int) := by omega
              go_wp2_with fail
              go_ret2
              exact ⟨_, ret_two (by rw [HT.out]), by rw [HT.out]; exact Own.empty _ _ HB.out.size, by repeat (first | with_reducible exact Below.refl _ _ | with_reducible exact HB.out | with_reducible apply Below.drew | with_reducible apply bdN | with_reducible refine Below.alloc ?_ (by first | exact Nat.le_refl _ | with_reducible exact HB.out.size | omega | (simp; done) | (simp; omega) | (have := HB.out.size; simp at *; omega)) _ | with_reducible refine Below.setCell ?_ (by first | exact Nat.le_refl _ | with_reducible exact HB.out.size | omega | (simp; done) | (simp; omega) | (have := HB.out.size; simp at *; omega)) _)⟩
end Go.Proofs.Ytjmlefcmhjodeaa.cards
