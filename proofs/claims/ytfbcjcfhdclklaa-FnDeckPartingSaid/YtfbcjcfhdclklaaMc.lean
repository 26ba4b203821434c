/- Maps: blocks that hold a Map; is it valid, the program's and the model's. -/
import Derived.Test.YtfbcjcfhdclklaaMb
import Derived.Laws.ResultCell
namespace Go.Proofs.Ytfbcjcfhdclklaa.maps
open Go.RowKit
open cards
set_option linter.unusedVariables false

abbrev A3.val (x : A3) : Value := .agg #[.int .i64 x.a, .int .i64 x.b, .int .i64 x.c]
abbrev A3.obj (x : A3) : Obj := .cells #[.int .i64 x.a, .int .i64 x.b, .int .i64 x.c] 55
abbrev zero3 : A3 := ⟨0, 0, 0⟩
abbrev Mp.vals (m : Mp) : Array Value := #[.int .i64 m.t.a, .int .i64 m.t.b, .int .i64 m.t.c, .int .i64 m.t.d, .int .i64 m.v0.a, .int .i64 m.v0.b, .int .i64 m.v0.c, .int .i64 m.v1.a, .int .i64 m.v1.b, .int .i64 m.v1.c, .int .i64 m.v2.a, .int .i64 m.v2.b, .int .i64 m.v2.c, .int .i64 m.v3.a, .int .i64 m.v3.b, .int .i64 m.v3.c]
abbrev Mp.val (m : Mp) : Value := .agg m.vals
/-- What a block that holds a Map holds. -/
structure Mv where
  t : TypeId
  m : Mp
abbrev Mv.obj (x : Mv) : Obj := .cells x.m.vals x.t
def MBox (w : World) (g : Nat) (x : Mv) : Prop := w.heap[g]? = some x.obj
theorem MBox.lt {w : World} {g : Nat} {x : Mv} (h : MBox w g x) : g < w.heap.size := by
  rcases Nat.lt_or_ge g w.heap.size with h1 | h1
  · exact h1
  · unfold MBox at h; rw [Array.getElem?_eq_none h1] at h; cases h
theorem MBox.newAt {w : World} {g : Nat} {x : Mv} {o : Obj} (h : w.heap.size = g) (ho : o = x.obj) : MBox (w.alloc o) g x := by subst h; subst ho; exact heap_alloc_new w _
theorem MBox.alloc {w : World} {g : Nat} {x : Mv} (h : MBox w g x) (o : Obj) : MBox (w.alloc o) g x := (Below.heap_alloc w o g h.lt).trans h
theorem MBox.drew {w : World} {g : Nat} {x : Mv} (h : MBox w g x) : MBox w.drew g x := h
theorem MBox.drewN {w : World} {g : Nat} {x : Mv} (h : MBox w g x) (n : Nat) : MBox (w.drewN n) g x := h
theorem MBox.below {w w1 : World} {g : Nat} {x : Mv} (h : MBox w g x) (b : Below w.heap.size w w1) : MBox w1 g x := (b.block g h.lt).trans h
theorem MBox.under {w w1 : World} {g B : Nat} {x : Mv} (h : MBox w g x) (hg : g < B) (b : Below B w w1) : MBox w1 g x := (b.block g hg).trans h
theorem MBox.frozen {w : World} {g : Nat} {x : Mv} (h : MBox w g x) : ∀ i, w.frozen? ⟨g, i, none⟩ = false := fun i => frozen_of_row w g i _ _ h
theorem MBox.far {w : World} {g : Nat} {x : Mv} (h : MBox w g x) {p : Addr} (hp : g ≠ p.block) (u : Value) : MBox (w.setCell p u) g x := (Below.heap_setCell w p u g hp).trans h
theorem MBox.marked {w w1 : World} {g : Nat} {x : Mv} {row : Option Nat} (h : MBox w g x) (hg : w.grownBy w1 row) (h2 : ∀ k, row = some k → g < k) : MBox w1 g x :=
  (hg.block g h.lt (fun e => Nat.lt_irrefl _ (h2 g e.symm))).trans h
theorem MBox.cellI {w : World} {g : Nat} {x : Mv} (h : MBox w g x) (i : Nat) : w.cell? ⟨g, i, none⟩ = x.m.vals[i]? := by
  unfold MBox at h
  rw [cell_of_row w g i _ _ _ h]
theorem MBox.cell {w : World} {g : Nat} {x : Mv} (h : MBox w g x) :
    w.cell? ⟨g, 0, none⟩ = some (.int .i64 x.m.t.a) ∧ w.cell? ⟨g, 1, none⟩ = some (.int .i64 x.m.t.b) ∧ w.cell? ⟨g, 2, none⟩ = some (.int .i64 x.m.t.c) ∧ w.cell? ⟨g, 3, none⟩ = some (.int .i64 x.m.t.d) ∧
    w.cell? ⟨g, 4, none⟩ = some (.int .i64 x.m.v0.a) ∧ w.cell? ⟨g, 5, none⟩ = some (.int .i64 x.m.v0.b) ∧ w.cell? ⟨g, 6, none⟩ = some (.int .i64 x.m.v0.c) ∧
    w.cell? ⟨g, 7, none⟩ = some (.int .i64 x.m.v1.a) ∧ w.cell? ⟨g, 8, none⟩ = some (.int .i64 x.m.v1.b) ∧ w.cell? ⟨g, 9, none⟩ = some (.int .i64 x.m.v1.c) ∧
    w.cell? ⟨g, 10, none⟩ = some (.int .i64 x.m.v2.a) ∧ w.cell? ⟨g, 11, none⟩ = some (.int .i64 x.m.v2.b) ∧ w.cell? ⟨g, 12, none⟩ = some (.int .i64 x.m.v2.c) ∧
    w.cell? ⟨g, 13, none⟩ = some (.int .i64 x.m.v3.a) ∧ w.cell? ⟨g, 14, none⟩ = some (.int .i64 x.m.v3.b) ∧ w.cell? ⟨g, 15, none⟩ = some (.int .i64 x.m.v3.c) :=
  ⟨h.cellI 0, h.cellI 1, h.cellI 2, h.cellI 3, h.cellI 4, h.cellI 5, h.cellI 6, h.cellI 7, h.cellI 8, h.cellI 9, h.cellI 10, h.cellI 11, h.cellI 12, h.cellI 13, h.cellI 14, h.cellI 15⟩
theorem MBox.rdT {w : World} {g : Nat} {x : Mv} (h : MBox w g x) : Rd w (some ⟨g, 0, none⟩) (ints [x.m.t.a, x.m.t.b, x.m.t.c, x.m.t.d]) := fun _ => ⟨g, 0, rfl, h.lt, fun j v hv => by
  have hj : j < 4 := by have := (List.getElem?_eq_some_iff.1 hv).1; simpa [ints] using this
  rw [h.cellI]
  rcases (show j = 0 ∨ j = 1 ∨ j = 2 ∨ j = 3 by omega) with rfl | rfl | rfl | rfl <;> exact hv⟩
theorem MBox.rd3 {w : World} {g : Nat} {x : Mv} (h : MBox w g x) (o : Nat) (y : A3) (h0 : x.m.vals[o]? = some (.int .i64 y.a)) (h1 : x.m.vals[o + 1]? = some (.int .i64 y.b)) (h2 : x.m.vals[o + 2]? = some (.int .i64 y.c)) :
    Rd w (some ⟨g, o, none⟩) (ints [y.a, y.b, y.c]) := fun _ => ⟨g, o, rfl, h.lt, fun j v hv => by
  have hj : j < 3 := by have := (List.getElem?_eq_some_iff.1 hv).1; simpa [ints] using this
  rw [h.cellI]
  rcases (show j = 0 ∨ j = 1 ∨ j = 2 by omega) with rfl | rfl | rfl
  · exact h0.trans hv
  · exact h1.trans hv
  · exact h2.trans hv⟩

def TBox (w : World) (g : Nat) (x : A3) : Prop := w.heap[g]? = some x.obj
theorem TBox.lt {w : World} {g : Nat} {x : A3} (h : TBox w g x) : g < w.heap.size := by
  rcases Nat.lt_or_ge g w.heap.size with h1 | h1
  · exact h1
  · unfold TBox at h; rw [Array.getElem?_eq_none h1] at h; cases h
theorem TBox.newAt {w : World} {g : Nat} {x : A3} {o : Obj} (h : w.heap.size = g) (ho : o = x.obj) : TBox (w.alloc o) g x := by subst h; subst ho; exact heap_alloc_new w _
theorem TBox.set_ {w : World} {g : Nat} {x : A3} (h : TBox w g x) (y : A3) : TBox (((w.setCell ⟨g, 0, none⟩ (.int .i64 y.a)).setCell ⟨g, 1, none⟩ (.int .i64 y.b)).setCell ⟨g, 2, none⟩ (.int .i64 y.c)) g y := by
  unfold TBox at h ⊢
  rw [heap_setCell_same _ g 2 _ _ _ (heap_setCell_same _ g 1 _ _ _ (heap_setCell_same w g 0 _ _ _ h))]
  rfl
theorem TBox.rd {w : World} {g : Nat} {x : A3} (h : TBox w g x) : Rd w (some ⟨g, 0, none⟩) (ints [x.a, x.b, x.c]) := Rd.of_block h rfl

/-- The four rows of values of a Map, read out of the value. -/
abbrev Mp.rows (m : Mp) : Value := .agg #[.int .i64 m.v0.a, .int .i64 m.v0.b, .int .i64 m.v0.c, .int .i64 m.v1.a, .int .i64 m.v1.b, .int .i64 m.v1.c, .int .i64 m.v2.a, .int .i64 m.v2.b, .int .i64 m.v2.c, .int .i64 m.v3.a, .int .i64 m.v3.b, .int .i64 m.v3.c]
theorem row_0 (m : Mp) (w : World) : (Instr.index 84 m.rows (.int .i64 0)).run Try.prog w = .ok m.v0.val w := by kernel_rfl
theorem row_1 (m : Mp) (w : World) : (Instr.index 84 m.rows (.int .i64 1)).run Try.prog w = .ok m.v1.val w := by kernel_rfl
theorem row_2 (m : Mp) (w : World) : (Instr.index 84 m.rows (.int .i64 2)).run Try.prog w = .ok m.v2.val w := by kernel_rfl
theorem row_3 (m : Mp) (w : World) : (Instr.index 84 m.rows (.int .i64 3)).run Try.prog w = .ok m.v3.val w := by kernel_rfl

def okTo (m : Mp) (k : Nat) : Prop := ∀ j : Nat, j < k → (getV m j).pm = true
theorem okTo_next {m : Mp} {k : Nat} (h : okTo m k) (hk : (getV m k).pm = true) : okTo m (k + 1) := fun j hj => by
  rcases Nat.lt_or_ge j k with h1 | h1
  · exact h j h1
  · obtain rfl : j = k := by omega
    exact hk
theorem okTo_no {m : Mp} (i : Int) (h : (getV m i).pm = false) : false = m.ok := by
  symm
  cases hm : m.ok
  · rfl
  · have := getV_pm hm i; rw [h] at this; exact this.symm
theorem okTo_all {m : Mp} (h : okTo m 4) : m.t.pm = m.ok := by
  have e0 : m.v0.pm = true := h 0 (by omega)
  have e1 : m.v1.pm = true := h 1 (by omega)
  have e2 : m.v2.pm = true := h 2 (by omega)
  have e3 : m.v3.pm = true := h 3 (by omega)
  unfold Mp.ok
  rw [e0, e1, e2, e3]; rfl

set_option maxRecDepth 100000 in
set_option maxHeartbeats 4000000 in
theorem is_map (m : Mp) (w : World) :
    Calls Try.prog 106 #[m.val] w fun e w' => e = .returned (.bool m.ok) ∧ Below w.heap.size w w' := by
  go_enter Try.func106, Try.ntmps106
  have K0 : Hid (MBox (w.alloc (Mv.obj ⟨86, m⟩)) w.heap.size ⟨86, m⟩) := Lib.hid (MBox.newAt rfl rfl)
  go_wp2_with fail
  go_loopw [4, 7] (fun _ i wr => ∃ k : Nat, k ≤ 4 ∧ i = .int .i64 k ∧ Hid (okTo m k) ∧ Hid (Below w.heap.size w wr) ∧ Hid (MBox wr w.heap.size ⟨86, m⟩)) (fun _ i _ => 4 - (intOf i).toNat)
  case atStart => exact ⟨0, Nat.zero_le _, rfl, fun j h => by omega, Lib.hid (by repeat (first | with_reducible exact Below.refl _ _ | with_reducible exact HB.out | with_reducible apply Below.drew | with_reducible apply bdN | with_reducible refine Below.alloc ?_ (by first | exact Nat.le_refl _ | with_reducible exact HB.out.size | omega | (simp; done) | (simp; omega) | (have := HB.out.size; simp at *; omega)) _ | with_reducible refine Below.setCell ?_ (by first | exact Nat.le_refl _ | with_reducible exact HB.out.size | omega | (simp; done) | (simp; omega) | (have := HB.out.size; simp at *; omega)) _)), K0⟩
  case round =>
    clear K0
    obtain ⟨k, hk, rfl, HA, HB, K0⟩ := hrel
    have k0z := K0.out.lt
    rcases (show k = 0 ∨ k = 1 ∨ k = 2 ∨ k = 3 ∨ k = 4 by omega) with rfl | rfl | rfl | rfl | rfl
    · have i0 := row_0 m
      have HC := Lib.hid (fun (w' : World) (g cq : Nat) (hr : Rd w' (some ⟨g, 0, none⟩) (ints [m.v0.a, m.v0.b, m.v0.c])) => is_order [m.v0.a, m.v0.b, m.v0.c] (some ⟨g, 0, none⟩) 3 cq w' rfl (by omega) hr)
      rw [ordI_3 m.v0] at HC
      cases hp : m.v0.pm
      · have HE := Lib.hid (okTo_no (m := m) 0 hp)
        rw [hp] at HC
        clear hp
        go_upto_region 4 with fail
        clear i0
        go_wp2_with fail
        refine ((HC.out _ _ _ (TBox.rd (TBox.newAt (x := m.v0) rfl rfl)))).mono ?_
        rintro e w2 ⟨rfl, b⟩
        have Sw2 := Lib.hid b.size
        have HB := Lib.hid (chain0 (w := w) (by repeat (first | with_reducible exact Below.refl _ _ | with_reducible exact HB.out | with_reducible apply Below.drew | with_reducible apply bdN | with_reducible refine Below.alloc ?_ (by first | exact Nat.le_refl _ | with_reducible exact HB.out.size | omega | (simp; done) | (simp; omega) | (have := HB.out.size; simp at *; omega)) _ | with_reducible refine Below.setCell ?_ (by first | exact Nat.le_refl _ | with_reducible exact HB.out.size | omega | (simp; done) | (simp; omega) | (have := HB.out.size; simp at *; omega)) _)) b)
        have K0 : Hid (MBox _ (w.heap.size) (⟨86, m⟩)) := Lib.hid (MBox.below (by repeat (first | with_reducible exact K0.out | with_reducible apply MBox.drewN | with_reducible apply MBox.drew | (with_reducible refine MBox.newAt ?_ ?_ <;> first | (simp; done) | rfl) | with_reducible apply MBox.alloc)) b)
        try clear k0a k0b k0c k0d k0e k0g k0h k0i k0j k0k k0l k0m k0n k0o k0p k0q k0z
        have k0z := K0.out.lt
        obtain ⟨k0a, k0b, k0c, k0d, k0e, k0g, k0h, k0i, k0j, k0k, k0l, k0m, k0n, k0o, k0p, k0q⟩ := K0.out.cell
        clear b
        go_wp2_with fail
        go_ret
        exact ⟨ret_bool HE.out, by repeat (first | with_reducible exact Below.refl _ _ | with_reducible exact HB.out | with_reducible apply Below.drew | with_reducible apply bdN | with_reducible refine Below.alloc ?_ (by first | exact Nat.le_refl _ | with_reducible exact HB.out.size | omega | (simp; done) | (simp; omega) | (have := HB.out.size; simp at *; omega)) _ | with_reducible refine Below.setCell ?_ (by first | exact Nat.le_refl _ | with_reducible exact HB.out.size | omega | (simp; done) | (simp; omega) | (have := HB.out.size; simp at *; omega)) _)⟩
      · have HE := Lib.hid (okTo_next (k := 0) HA.out hp)
        rw [hp] at HC
        clear hp
        go_upto_region 4 with fail
        clear i0
        go_wp2_with fail
        refine ((HC.out _ _ _ (TBox.rd (TBox.newAt (x := m.v0) rfl rfl)))).mono ?_
        rintro e w2 ⟨rfl, b⟩
        have Sw2 := Lib.hid b.size
        have HB := Lib.hid (chain0 (w := w) (by repeat (first | with_reducible exact Below.refl _ _ | with_reducible exact HB.out | with_reducible apply Below.drew | with_reducible apply bdN | with_reducible refine Below.alloc ?_ (by first | exact Nat.le_refl _ | with_reducible exact HB.out.size | omega | (simp; done) | (simp; omega) | (have := HB.out.size; simp at *; omega)) _ | with_reducible refine Below.setCell ?_ (by first | exact Nat.le_refl _ | with_reducible exact HB.out.size | omega | (simp; done) | (simp; omega) | (have := HB.out.size; simp at *; omega)) _)) b)
        have K0 : Hid (MBox _ (w.heap.size) (⟨86, m⟩)) := Lib.hid (MBox.below (by repeat (first | with_reducible exact K0.out | with_reducible apply MBox.drewN | with_reducible apply MBox.drew | (with_reducible refine MBox.newAt ?_ ?_ <;> first | (simp; done) | rfl) | with_reducible apply MBox.alloc)) b)
        try clear k0a k0b k0c k0d k0e k0g k0h k0i k0j k0k k0l k0m k0n k0o k0p k0q k0z
        have k0z := K0.out.lt
        obtain ⟨k0a, k0b, k0c, k0d, k0e, k0g, k0h, k0i, k0j, k0k, k0l, k0m, k0n, k0o, k0p, k0q⟩ := K0.out.cell
        clear b
        go_wp2_with fail
        go_roundw
        case rel => exact ⟨0 + 1, by omega, by go_num, HE, HB, K0⟩
        case measure => simp [intOf]
    · have i0 := row_1 m
      have HC := Lib.hid (fun (w' : World) (g cq : Nat) (hr : Rd w' (some ⟨g, 0, none⟩) (ints [m.v1.a, m.v1.b, m.v1.c])) => is_order [m.v1.a, m.v1.b, m.v1.c] (some ⟨g, 0, none⟩) 3 cq w' rfl (by omega) hr)
      rw [ordI_3 m.v1] at HC
      cases hp : m.v1.pm
      · have HE := Lib.hid (okTo_no (m := m) 1 hp)
        rw [hp] at HC
        clear hp
        go_upto_region 4 with fail
        clear i0
        go_wp2_with fail
        refine ((HC.out _ _ _ (TBox.rd (TBox.newAt (x := m.v1) rfl rfl)))).mono ?_
        rintro e w2 ⟨rfl, b⟩
        have Sw2 := Lib.hid b.size
        have HB := Lib.hid (chain0 (w := w) (by repeat (first | with_reducible exact Below.refl _ _ | with_reducible exact HB.out | with_reducible apply Below.drew | with_reducible apply bdN | with_reducible refine Below.alloc ?_ (by first | exact Nat.le_refl _ | with_reducible exact HB.out.size | omega | (simp; done) | (simp; omega) | (have := HB.out.size; simp at *; omega)) _ | with_reducible refine Below.setCell ?_ (by first | exact Nat.le_refl _ | with_reducible exact HB.out.size | omega | (simp; done) | (simp; omega) | (have := HB.out.size; simp at *; omega)) _)) b)
        have K0 : Hid (MBox _ (w.heap.size) (⟨86, m⟩)) := Lib.hid (MBox.below (by repeat (first | with_reducible exact K0.out | with_reducible apply MBox.drewN | with_reducible apply MBox.drew | (with_reducible refine MBox.newAt ?_ ?_ <;> first | (simp; done) | rfl) | with_reducible apply MBox.alloc)) b)
        try clear k0a k0b k0c k0d k0e k0g k0h k0i k0j k0k k0l k0m k0n k0o k0p k0q k0z
        have k0z := K0.out.lt
        obtain ⟨k0a, k0b, k0c, k0d, k0e, k0g, k0h, k0i, k0j, k0k, k0l, k0m, k0n, k0o, k0p, k0q⟩ := K0.out.cell
        clear b
        go_wp2_with fail
        go_ret
        exact ⟨ret_bool HE.out, by repeat (first | with_reducible exact Below.refl _ _ | with_reducible exact HB.out | with_reducible apply Below.drew | with_reducible apply bdN | with_reducible refine Below.alloc ?_ (by first | exact Nat.le_refl _ | with_reducible exact HB.out.size | omega | (simp; done) | (simp; omega) | (have := HB.out.size; simp at *; omega)) _ | with_reducible refine Below.setCell ?_ (by first | exact Nat.le_refl _ | with_reducible exact HB.out.size | omega | (simp; done) | (simp; omega) | (have := HB.out.size; simp at *; omega)) _)⟩
      · have HE := Lib.hid (okTo_next (k := 1) HA.out hp)
        rw [hp] at HC
        clear hp
        go_upto_region 4 with fail
        clear i0
        go_wp2_with fail
        refine ((HC.out _ _ _ (TBox.rd (TBox.newAt (x := m.v1) rfl rfl)))).mono ?_
        rintro e w2 ⟨rfl, b⟩
        have Sw2 := Lib.hid b.size
        have HB := Lib.hid (chain0 (w := w) (by repeat (first | with_reducible exact Below.refl _ _ | with_reducible exact HB.out | with_reducible apply Below.drew | with_reducible apply bdN | with_reducible refine Below.alloc ?_ (by first | exact Nat.le_refl _ | with_reducible exact HB.out.size | omega | (simp; done) | (simp; omega) | (have := HB.out.size; simp at *; omega)) _ | with_reducible refine Below.setCell ?_ (by first | exact Nat.le_refl _ | with_reducible exact HB.out.size | omega | (simp; done) | (simp; omega) | (have := HB.out.size; simp at *; omega)) _)) b)
        have K0 : Hid (MBox _ (w.heap.size) (⟨86, m⟩)) := Lib.hid (MBox.below (by repeat (first | with_reducible exact K0.out | with_reducible apply MBox.drewN | with_reducible apply MBox.drew | (with_reducible refine MBox.newAt ?_ ?_ <;> first | (simp; done) | rfl) | with_reducible apply MBox.alloc)) b)
        try clear k0a k0b k0c k0d k0e k0g k0h k0i k0j k0k k0l k0m k0n k0o k0p k0q k0z
        have k0z := K0.out.lt
        obtain ⟨k0a, k0b, k0c, k0d, k0e, k0g, k0h, k0i, k0j, k0k, k0l, k0m, k0n, k0o, k0p, k0q⟩ := K0.out.cell
        clear b
        go_wp2_with fail
        go_roundw
        case rel => exact ⟨1 + 1, by omega, by go_num, HE, HB, K0⟩
        case measure => simp [intOf]
    · have i0 := row_2 m
      have HC := Lib.hid (fun (w' : World) (g cq : Nat) (hr : Rd w' (some ⟨g, 0, none⟩) (ints [m.v2.a, m.v2.b, m.v2.c])) => is_order [m.v2.a, m.v2.b, m.v2.c] (some ⟨g, 0, none⟩) 3 cq w' rfl (by omega) hr)
      rw [ordI_3 m.v2] at HC
      cases hp : m.v2.pm
      · have HE := Lib.hid (okTo_no (m := m) 2 hp)
        rw [hp] at HC
        clear hp
        go_upto_region 4 with fail
        clear i0
        go_wp2_with fail
        refine ((HC.out _ _ _ (TBox.rd (TBox.newAt (x := m.v2) rfl rfl)))).mono ?_
        rintro e w2 ⟨rfl, b⟩
        have Sw2 := Lib.hid b.size
        have HB := Lib.hid (chain0 (w := w) (by repeat (first | with_reducible exact Below.refl _ _ | with_reducible exact HB.out | with_reducible apply Below.drew | with_reducible apply bdN | with_reducible refine Below.alloc ?_ (by first | exact Nat.le_refl _ | with_reducible exact HB.out.size | omega | (simp; done) | (simp; omega) | (have := HB.out.size; simp at *; omega)) _ | with_reducible refine Below.setCell ?_ (by first | exact Nat.le_refl _ | with_reducible exact HB.out.size | omega | (simp; done) | (simp; omega) | (have := HB.out.size; simp at *; omega)) _)) b)
        have K0 : Hid (MBox _ (w.heap.size) (⟨86, m⟩)) := Lib.hid (MBox.below (by repeat (first | with_reducible exact K0.out | with_reducible apply MBox.drewN | with_reducible apply MBox.drew | (with_reducible refine MBox.newAt ?_ ?_ <;> first | (simp; done) | rfl) | with_reducible apply MBox.alloc)) b)
        try clear k0a k0b k0c k0d k0e k0g k0h k0i k0j k0k k0l k0m k0n k0o k0p k0q k0z
        have k0z := K0.out.lt
        obtain ⟨k0a, k0b, k0c, k0d, k0e, k0g, k0h, k0i, k0j, k0k, k0l, k0m, k0n, k0o, k0p, k0q⟩ := K0.out.cell
        clear b
        go_wp2_with fail
        go_ret
        exact ⟨ret_bool HE.out, by repeat (first | with_reducible exact Below.refl _ _ | with_reducible exact HB.out | with_reducible apply Below.drew | with_reducible apply bdN | with_reducible refine Below.alloc ?_ (by first | exact Nat.le_refl _ | with_reducible exact HB.out.size | omega | (simp; done) | (simp; omega) | (have := HB.out.size; simp at *; omega)) _ | with_reducible refine Below.setCell ?_ (by first | exact Nat.le_refl _ | with_reducible exact HB.out.size | omega | (simp; done) | (simp; omega) | (have := HB.out.size; simp at *; omega)) _)⟩
      · have HE := Lib.hid (okTo_next (k := 2) HA.out hp)
        rw [hp] at HC
        clear hp
        go_upto_region 4 with fail
        clear i0
        go_wp2_with fail
        refine ((HC.out _ _ _ (TBox.rd (TBox.newAt (x := m.v2) rfl rfl)))).mono ?_
        rintro e w2 ⟨rfl, b⟩
        have Sw2 := Lib.hid b.size
        have HB := Lib.hid (chain0 (w := w) (by repeat (first | with_reducible exact Below.refl _ _ | with_reducible exact HB.out | with_reducible apply Below.drew | with_reducible apply bdN | with_reducible refine Below.alloc ?_ (by first | exact Nat.le_refl _ | with_reducible exact HB.out.size | omega | (simp; done) | (simp; omega) | (have := HB.out.size; simp at *; omega)) _ | with_reducible refine Below.setCell ?_ (by first | exact Nat.le_refl _ | with_reducible exact HB.out.size | omega | (simp; done) | (simp; omega) | (have := HB.out.size; simp at *; omega)) _)) b)
        have K0 : Hid (MBox _ (w.heap.size) (⟨86, m⟩)) := Lib.hid (MBox.below (by repeat (first | with_reducible exact K0.out | with_reducible apply MBox.drewN | with_reducible apply MBox.drew | (with_reducible refine MBox.newAt ?_ ?_ <;> first | (simp; done) | rfl) | with_reducible apply MBox.alloc)) b)
        try clear k0a k0b k0c k0d k0e k0g k0h k0i k0j k0k k0l k0m k0n k0o k0p k0q k0z
        have k0z := K0.out.lt
        obtain ⟨k0a, k0b, k0c, k0d, k0e, k0g, k0h, k0i, k0j, k0k, k0l, k0m, k0n, k0o, k0p, k0q⟩ := K0.out.cell
        clear b
        go_wp2_with fail
        go_roundw
        case rel => exact ⟨2 + 1, by omega, by go_num, HE, HB, K0⟩
        case measure => simp [intOf]
    · have i0 := row_3 m
      have HC := Lib.hid (fun (w' : World) (g cq : Nat) (hr : Rd w' (some ⟨g, 0, none⟩) (ints [m.v3.a, m.v3.b, m.v3.c])) => is_order [m.v3.a, m.v3.b, m.v3.c] (some ⟨g, 0, none⟩) 3 cq w' rfl (by omega) hr)
      rw [ordI_3 m.v3] at HC
      cases hp : m.v3.pm
      · have HE := Lib.hid (okTo_no (m := m) 3 hp)
        rw [hp] at HC
        clear hp
        go_upto_region 4 with fail
        clear i0
        go_wp2_with fail
        refine ((HC.out _ _ _ (TBox.rd (TBox.newAt (x := m.v3) rfl rfl)))).mono ?_
        rintro e w2 ⟨rfl, b⟩
        have Sw2 := Lib.hid b.size
        have HB := Lib.hid (chain0 (w := w) (by repeat (first | with_reducible exact Below.refl _ _ | with_reducible exact HB.out | with_reducible apply Below.drew | with_reducible apply bdN | with_reducible refine Below.alloc ?_ (by first | exact Nat.le_refl _ | with_reducible exact HB.out.size | omega | (simp; done) | (simp; omega) | (have := HB.out.size; simp at *; omega)) _ | with_reducible refine Below.setCell ?_ (by first | exact Nat.le_refl _ | with_reducible exact HB.out.size | omega | (simp; done) | (simp; omega) | (have := HB.out.size; simp at *; omega)) _)) b)
        have K0 : Hid (MBox _ (w.heap.size) (⟨86, m⟩)) := Lib.hid (MBox.below (by repeat (first | with_reducible exact K0.out | with_reducible apply MBox.drewN | with_reducible apply MBox.drew | (with_reducible refine MBox.newAt ?_ ?_ <;> first | (simp; done) | rfl) | with_reducible apply MBox.alloc)) b)
        try clear k0a k0b k0c k0d k0e k0g k0h k0i k0j k0k k0l k0m k0n k0o k0p k0q k0z
        have k0z := K0.out.lt
        obtain ⟨k0a, k0b, k0c, k0d, k0e, k0g, k0h, k0i, k0j, k0k, k0l, k0m, k0n, k0o, k0p, k0q⟩ := K0.out.cell
        clear b
        go_wp2_with fail
        go_ret
        exact ⟨ret_bool HE.out, by repeat (first | with_reducible exact Below.refl _ _ | with_reducible exact HB.out | with_reducible apply Below.drew | with_reducible apply bdN | with_reducible refine Below.alloc ?_ (by first | exact Nat.le_refl _ | with_reducible exact HB.out.size | omega | (simp; done) | (simp; omega) | (have := HB.out.size; simp at *; omega)) _ | with_reducible refine Below.setCell ?_ (by first | exact Nat.le_refl _ | with_reducible exact HB.out.size | omega | (simp; done) | (simp; omega) | (have := HB.out.size; simp at *; omega)) _)⟩
      · have HE := Lib.hid (okTo_next (k := 3) HA.out hp)
        rw [hp] at HC
        clear hp
        go_upto_region 4 with fail
        clear i0
        go_wp2_with fail
        refine ((HC.out _ _ _ (TBox.rd (TBox.newAt (x := m.v3) rfl rfl)))).mono ?_
        rintro e w2 ⟨rfl, b⟩
        have Sw2 := Lib.hid b.size
        have HB := Lib.hid (chain0 (w := w) (by repeat (first | with_reducible exact Below.refl _ _ | with_reducible exact HB.out | with_reducible apply Below.drew | with_reducible apply bdN | with_reducible refine Below.alloc ?_ (by first | exact Nat.le_refl _ | with_reducible exact HB.out.size | omega | (simp; done) | (simp; omega) | (have := HB.out.size; simp at *; omega)) _ | with_reducible refine Below.setCell ?_ (by first | exact Nat.le_refl _ | with_reducible exact HB.out.size | omega | (simp; done) | (simp; omega) | (have := HB.out.size; simp at *; omega)) _)) b)
        have K0 : Hid (MBox _ (w.heap.size) (⟨86, m⟩)) := Lib.hid (MBox.below (by repeat (first | with_reducible exact K0.out | with_reducible apply MBox.drewN | with_reducible apply MBox.drew | (with_reducible refine MBox.newAt ?_ ?_ <;> first | (simp; done) | rfl) | with_reducible apply MBox.alloc)) b)
        try clear k0a k0b k0c k0d k0e k0g k0h k0i k0j k0k k0l k0m k0n k0o k0p k0q k0z
        have k0z := K0.out.lt
        obtain ⟨k0a, k0b, k0c, k0d, k0e, k0g, k0h, k0i, k0j, k0k, k0l, k0m, k0n, k0o, k0p, k0q⟩ := K0.out.cell
        clear b
        go_wp2_with fail
        go_roundw
        case rel => exact ⟨3 + 1, by omega, by go_num, HE, HB, K0⟩
        case measure => simp [intOf]
    · skip
      have HC := Lib.hid (fun (w' : World) (cq : Nat) (hr : Rd w' (some ⟨w.heap.size, 0, none⟩) (ints [m.t.a, m.t.b, m.t.c, m.t.d])) => is_order [m.t.a, m.t.b, m.t.c, m.t.d] (some ⟨w.heap.size, 0, none⟩) 4 cq w' rfl (by omega) hr)
      rw [ordI_4 m.t, okTo_all HA.out] at HC
      go_wp2_with fail
      refine ((HC.out _ _ (MBox.rdT K0.out))).mono ?_
      rintro e w2 ⟨rfl, b⟩
      have Sw2 := Lib.hid b.size
      have HB := Lib.hid (chain0 (w := w) (by repeat (first | with_reducible exact Below.refl _ _ | with_reducible exact HB.out | with_reducible apply Below.drew | with_reducible apply bdN | with_reducible refine Below.alloc ?_ (by first | exact Nat.le_refl _ | with_reducible exact HB.out.size | omega | (simp; done) | (simp; omega) | (have := HB.out.size; simp at *; omega)) _ | with_reducible refine Below.setCell ?_ (by first | exact Nat.le_refl _ | with_reducible exact HB.out.size | omega | (simp; done) | (simp; omega) | (have := HB.out.size; simp at *; omega)) _)) b)
      have K0 : Hid (MBox _ (w.heap.size) (⟨86, m⟩)) := Lib.hid (MBox.below (by repeat (first | with_reducible exact K0.out | with_reducible apply MBox.drewN | with_reducible apply MBox.drew | (with_reducible refine MBox.newAt ?_ ?_ <;> first | (simp; done) | rfl) | with_reducible apply MBox.alloc)) b)
      try clear k0a k0b k0c k0d k0e k0g k0h k0i k0j k0k k0l k0m k0n k0o k0p k0q k0z
      have k0z := K0.out.lt
      obtain ⟨k0a, k0b, k0c, k0d, k0e, k0g, k0h, k0i, k0j, k0k, k0l, k0m, k0n, k0o, k0p, k0q⟩ := K0.out.cell
      clear b
      go_wp2_with fail
      go_ret
      exact ⟨rfl, by repeat (first | with_reducible exact Below.refl _ _ | with_reducible exact HB.out | with_reducible apply Below.drew | with_reducible apply bdN | with_reducible refine Below.alloc ?_ (by first | exact Nat.le_refl _ | with_reducible exact HB.out.size | omega | (simp; done) | (simp; omega) | (have := HB.out.size; simp at *; omega)) _ | with_reducible refine Below.setCell ?_ (by first | exact Nat.le_refl _ | with_reducible exact HB.out.size | omega | (simp; done) | (simp; omega) | (have := HB.out.size; simp at *; omega)) _)⟩

end Go.Proofs.Ytfbcjcfhdclklaa.maps
