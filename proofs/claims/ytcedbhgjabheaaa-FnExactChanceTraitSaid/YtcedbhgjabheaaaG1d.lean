/- ChanceTrait: the closures; the model's column. -/
import Derived.Test.YtcedbhgjabheaaaG1c
namespace Go.Proofs.Ytcedbhgjabheaaa.chance
open Go.RowKit
open cards reg parting
set_option linter.unusedVariables false

theorem tr_cell {w : World} {g o : Nat} {x : Cd} (c0 : w.cell? ⟨g, o, none⟩ = some (.int .i64 x.a)) (c1 : w.cell? ⟨g, o + 1, none⟩ = some (.int .i64 x.b)) (c2 : w.cell? ⟨g, o + 2, none⟩ = some (.int .i64 x.c)) (c3 : w.cell? ⟨g, o + 3, none⟩ = some (.int .i64 x.d)) {t : Nat} (h : t < 4) : w.cell? ⟨g, o + t, none⟩ = some (.int .i64 (tr x t)) := by
  match t, h with
  | 0, _ => exact c0
  | 1, _ => exact c1
  | 2, _ => exact c2
  | 3, _ => exact c3

set_option maxRecDepth 100000 in
set_option maxHeartbeats 2000000 in
theorem trait_fun (x y : Cd) (t gt gd g m c : Nat) (w : World) (ht : t < 4) (hm : 0 < m) (hg : w.cell? ⟨gt, 0, none⟩ = some (.int .i64 t)) (hgl : gt < w.heap.size) (hd : w.cell? ⟨gd, 0, none⟩ = some (.slice (some ⟨g, 0, none⟩) m c)) (hdl : gd < w.heap.size) (hy : w.cell? ⟨g, t, none⟩ = some (.int .i64 (tr y t))) (hyl : g < w.heap.size) :
    Calls Try.prog 77 #[x.val, .pointer (some ⟨gt, 0, none⟩), .pointer (some ⟨gd, 0, none⟩)] w fun e w' => e = .returned (.bool (tr x t != tr y t)) ∧ Below w.heap.size w w' := by
  have b0 := (Below.refl w.heap.size w).alloc (Nat.le_refl _) x.obj
  have hx := (Box.new w x).cell
  have e0 := tr_cell (g := w.heap.size) (o := 0) hx.1 hx.2.1 hx.2.2.1 hx.2.2.2 ht
  rw [Nat.zero_add] at e0
  have e1 := (b0.cell (p := ⟨gt, 0, none⟩) hgl).trans hg
  have e2 := (b0.cell (p := ⟨gd, 0, none⟩) hdl).trans hd
  have e3 := (b0.cell (p := ⟨g, t, none⟩) hyl).trans hy
  have HB : Hid (Below w.heap.size w (w.alloc x.obj)) := Lib.hid b0
  have t0 : (0 : Int) ≤ (t : Int) := by omega
  have t1 : (t : Int) < 4 := by omega
  have m0 : (0 : Int) < (m : Int) := by omega
  generalize tr x t = u at *
  generalize tr y t = v at *
  clear hg hd hy hx b0 hgl hdl hyl
  go_enter Try.func77, Try.ntmps77
  go_wp2_with fail
  generalize w.alloc x.obj = W at *
  have qe0 := fun d os => cell_regrown e0 d os
  have qe1 := fun d os => cell_regrown e1 d os
  have qe2 := fun d os => cell_regrown e2 d os
  have qe3 := fun d os => cell_regrown e3 d os
  refine wp_region_quiet_below (by kernel_rfl) (by kernel_rfl) ?_
  repeat (first | go_big_quiet_step ((fail)) | quiet_step ((fail)))
  refine wpQuiet_nil ?_
  intro w2 hw2
  have b : Below W.heap.size W w2 := by obtain ⟨r, hr⟩ := hw2; rw [hr]; exact below_regrown _ _ _
  clear hw2 qe0 qe1 qe2 qe3
  have Sw2 := Lib.hid b.size
  have HB := Lib.hid (chain0 (w := w) (by repeat (first | with_reducible exact Below.refl _ _ | with_reducible exact HB.out | with_reducible apply Below.drew | with_reducible apply bdN | with_reducible refine Below.alloc ?_ (by first | exact Nat.le_refl _ | with_reducible exact HB.out.size | omega | (simp; done) | (simp; omega) | (have := HB.out.size; simp at *; omega)) _ | with_reducible refine Below.setCell ?_ (by first | exact Nat.le_refl _ | with_reducible exact HB.out.size | omega | (simp; done) | (simp; omega) | (have := HB.out.size; simp at *; omega)) _)) b)
  clear b
  go_wp2_with fail
  go_ret
  exact ⟨rfl, HB.out⟩

set_option maxRecDepth 100000 in
set_option maxHeartbeats 2000000 in
theorem fit_trait (w0 : World) (L : List Cd) (t gt N : Nat) (hN : 0 < N ∧ N ≤ 1000) (ht : t < 4) (hg : VB w0 gt 3 #[.int .i64 t]) : FitAt 75 #[] #[.pointer (some ⟨gt, 0, none⟩)] w0 L N (sameT t) := by
  refine ⟨fun args w => by kernel_rfl, fun w ps g m c hb hr hsub hm hn hmc => ?_⟩
  obtain ⟨y, ys, rfl⟩ : ∃ y ys, ps = y :: ys := by
    match ps, hm with
    | [], h => simp at h; omega
    | y :: ys, _ => exact ⟨y, ys, rfl⟩
  obtain ⟨b0, o0, y0, e0, h0, hy0, c0, c1, c2, c3⟩ := hr.card (k := 0) (by simp)
  simp at hy0
  subst hy0
  injection e0 with e0; injection e0 with e0 e0'
  subst e0; subst e0'
  have hyt := tr_cell (o := 0 + 0 * 4) c0 c1 c2 c3 ht
  simp only [Nat.zero_mul, Nat.zero_add] at hyt
  have hgw := hg.under hg.lt hb
  have hgc : w.cell? ⟨gt, 0, none⟩ = some (.int .i64 t) := VB.at_ hgw (j := 0) rfl
  have hm0 : 0 < m := by omega
  have b1 := (Below.refl w.heap.size w).alloc (Nat.le_refl _) (.cells #[.slice (some ⟨g, 0, none⟩) m c] 22)
  have hcd : (w.alloc (.cells #[.slice (some ⟨g, 0, none⟩) m c] 22)).cell? ⟨w.heap.size, 0, none⟩ = some (.slice (some ⟨g, 0, none⟩) m c) := (cell_of_row _ _ 0 _ _ _ (heap_alloc_new w _)).trans rfl
  have hlt : w.heap.size < (w.alloc (.cells #[.slice (some ⟨g, 0, none⟩) m c] 22)).heap.size := by simp
  have HB : Hid (Below w.heap.size w (w.alloc (.cells #[.slice (some ⟨g, 0, none⟩) m c] 22))) := Lib.hid b1
  have hc1 := (b1.cell (p := ⟨gt, 0, none⟩) hgw.lt).trans hgc
  have hc2 := (b1.cell (p := ⟨g, t, none⟩) h0).trans hyt
  have HC := Lib.hid (fun hr' => contains_funC 77 (.pointer (some ⟨gt, 0, none⟩)) (.pointer (some ⟨w.heap.size, 0, none⟩)) (fun x => tr x t != tr y t) (y :: ys) (some ⟨g, 0, none⟩) m c (w.alloc (.cells #[.slice (some ⟨g, 0, none⟩) m c] 22)) hm (by omega) hr' (fun args w => by kernel_rfl)
    (fun x w' hb' => trait_fun x y t gt w.heap.size g m c w' ht hm0 ((hb'.cell (p := ⟨gt, 0, none⟩) (Nat.lt_of_lt_of_le hgw.lt b1.size)).trans hc1) (Nat.lt_of_lt_of_le (Nat.lt_of_lt_of_le hgw.lt b1.size) hb'.size) ((hb'.cell (p := ⟨w.heap.size, 0, none⟩) hlt).trans hcd) (Nat.lt_of_lt_of_le hlt hb'.size) ((hb'.cell (p := ⟨g, t, none⟩) (Nat.lt_of_lt_of_le h0 b1.size)).trans hc2) (Nat.lt_of_lt_of_le (Nat.lt_of_lt_of_le h0 b1.size) hb'.size)))
  have HR := Lib.hid (hr.alloc (.cells #[.slice (some ⟨g, 0, none⟩) m c] 22))
  show Calls Try.prog 75 #[.slice (some ⟨g, 0, none⟩) m c, .pointer (some ⟨gt, 0, none⟩)] w (fun e w' => e = .returned (.bool (!(y :: ys).any (fun x => tr x t != tr y t))) ∧ Below w.heap.size w w')
  generalize (y :: ys).any (fun x => tr x t != tr y t) = z at *
  clear hr hsub hb hg hgw hgc hyt hc1 hc2 hlt b1 c0 c1 c2 c3 hm hn
  go_enter Try.func75, Try.ntmps75
  go_wp2_with fail
  refine (HC.out HR.out).mono ?_
  rintro e w1 ⟨rfl, b⟩
  have HB2 := Lib.hid (HB.out.trans (b.mono HB.out.size))
  clear b hcd
  go_wp2_with fail
  go_ret
  exact ⟨rfl, HB2.out⟩
end Go.Proofs.Ytcedbhgjabheaaa.chance
