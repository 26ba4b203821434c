/- Claims that the law makes, and slices of numbers between two blocks. -/
import Derived.Test.YteccbcbijfcpmaaGe
import Derived.Test.YteccbcbijfcpmaaE3
namespace Go.Proofs.Yteccbcbijfcpmaa.game
open Go.RowKit
open cards deal
set_option linter.unusedVariables false

/-! Slices of numbers between two blocks. -/
structure OwnS (w : World) (B C : Nat) (v : Value) (l : List Int) : Prop where
  o : OwnI w B v l
  c : ∀ g, v.ownBlock = some g → g < C
section
variable {w w1 : World} {B C : Nat} {v : Value} {l : List Int}
theorem OwnS.below (h : OwnS w B C v l) (b : Below w.heap.size w w1) : OwnS w1 B C v l := ⟨h.o.below b, h.c⟩
theorem OwnS.alloc (h : OwnS w B C v l) (o : Obj) : OwnS (w.alloc o) B C v l := ⟨h.o.alloc o, h.c⟩
theorem OwnS.drew (h : OwnS w B C v l) : OwnS w.drew B C v l := ⟨h.o.drew, h.c⟩
theorem OwnS.drewN (h : OwnS w B C v l) (k : Nat) : OwnS (w.drewN k) B C v l := ⟨h.o.drewN k, h.c⟩
theorem OwnS.out {a b : Nat} (h : OwnS w B C v l) (o : Out a b w w1) (hd : C ≤ a ∨ b ≤ B) : OwnS w1 B C v l := ⟨OwnI.out h.o o (fun g e => by have := h.c g e; have := (h.o.span g e).1; omega), h.c⟩
theorem OwnS.base {B' : Nat} (h : OwnS w B C v l) (hB : B' ≤ B) : OwnS w B' C v l := ⟨OwnI.base h.o hB, h.c⟩
theorem OwnS.rd {p : Option Addr} {n c : Nat} (h : OwnS w B C (.slice p n c) l) : Rd w p (ints l) := h.o.rd
theorem OwnS.of (h : OwnI w B v l) : OwnS w B w.heap.size v l := ⟨h, fun g e => (h.span g e).2⟩
end
set_option maxHeartbeats 400000 in
theorem mark_intsS (l : List Int) (v : Value) (B C k0 n : Nat) (w : World) (hn : l.length = n) (hl : k0 + n ≤ 1000000000) (hC : C ≤ w.heap.size) (hB : B ≤ C) (ho : OwnS w B C v l) :
    Calls Try.prog 39 #[v, .int .i64 k0] w fun e w' => e = .returned (.int .i64 (k0 + n : Nat)) ∧ OwnS w' B C v (markedI k0 n) ∧ Out B C w w' :=
  (mark_ints l v B k0 n w hn hl (by omega) ho.o).mono fun e w' ⟨he, h1, h2⟩ => ⟨he, ⟨h1, ho.c⟩, Out.grown h2 (fun g e => ⟨(ho.o.span g e).1, ho.c g e⟩)⟩

/-! Claims. -/
set_option maxRecDepth 100000 in
theorem to_a3 (x : A3) (w : World) :
    Calls Try.prog 69 #[x.val] w fun e w' => e = .returned x.val ∧ Below w.heap.size w w' := by
  go_enter Try.func69, Try.ntmps69
  go_wp2
  go_rounds 4
  exact bodyPost_ret (v := x.val) (by simp [results, Try.results69, go_sem]) rfl ⟨rfl, by repeat (first | with_reducible exact Below.refl _ _ | with_reducible exact HB.out | with_reducible apply Below.drew | with_reducible apply bdN | with_reducible refine Below.alloc ?_ (by first | exact Nat.le_refl _ | with_reducible exact HB.out.size | omega | (simp; done) | (simp; omega) | (have := HB.out.size; simp at *; omega)) _ | with_reducible refine Below.setCell ?_ (by first | exact Nat.le_refl _ | with_reducible exact HB.out.size | omega | (simp; done) | (simp; omega) | (have := HB.out.size; simp at *; omega)) _)⟩
/-- A block that holds a claim. -/
structure Cv where
  t : TypeId
  c : Cd
abbrev Cv.obj (x : Cv) : Obj := .cells #[.int .i64 x.c.a, .int .i64 x.c.b, .int .i64 x.c.c, .int .i64 x.c.d] x.t
def CBox (w : World) (g : Nat) (x : Cv) : Prop := w.heap[g]? = some x.obj
section
variable {w w1 : World} {g : Nat} {x : Cv}
theorem CBox.lt (h : CBox w g x) : g < w.heap.size := (Array.getElem?_eq_some_iff.1 h).1
theorem CBox.newAt {o : Obj} (h : w.heap.size = g) (ho : o = x.obj) : CBox (w.alloc o) g x := by subst h; subst ho; exact heap_alloc_new w _
theorem CBox.alloc (h : CBox w g x) (o : Obj) : CBox (w.alloc o) g x := (Below.heap_alloc w o g h.lt).trans h
theorem CBox.drew (h : CBox w g x) : CBox w.drew g x := h
theorem CBox.drewN (h : CBox w g x) (n : Nat) : CBox (w.drewN n) g x := h
theorem CBox.below (h : CBox w g x) (b : Below w.heap.size w w1) : CBox w1 g x := (b.block g h.lt).trans h
theorem CBox.cell (h : CBox w g x) : w.cell? ⟨g, 0, none⟩ = some (.int .i64 x.c.a) ∧ w.cell? ⟨g, 1, none⟩ = some (.int .i64 x.c.b) ∧ w.cell? ⟨g, 2, none⟩ = some (.int .i64 x.c.c) ∧ w.cell? ⟨g, 3, none⟩ = some (.int .i64 x.c.d) := by
  unfold CBox at h
  exact ⟨by rw [cell_of_row w g 0 _ _ _ h]; rfl, by rw [cell_of_row w g 1 _ _ _ h]; rfl, by rw [cell_of_row w g 2 _ _ _ h]; rfl, by rw [cell_of_row w g 3 _ _ _ h]; rfl⟩
theorem CBox.frozen (h : CBox w g x) : ∀ i, w.frozen? ⟨g, i, none⟩ = false := fun i => frozen_of_row w g i _ _ h
theorem CBox.out {a b : Nat} (h : CBox w g x) (o : Out a b w w1) (hg : g < a ∨ b ≤ g) : CBox w1 g x := (o.block g h.lt hg).trans h
theorem CBox.far (h : CBox w g x) {g2 : Nat} (hp : g ≠ g2) (o : Nat) (u : Value) : CBox (w.setCell ⟨g2, o, none⟩ u) g x := (Below.heap_setCell w ⟨g2, o, none⟩ u g hp).trans h
end
theorem load_claim {w : World} {g : Nat} {c : Cd} (h : CBox w g ⟨45, c⟩) : (loadVar 45 ⟨g, 0, none⟩).run Try.prog w = .ok c.val w := by
  obtain ⟨h0, h1, h2, h3⟩ := h.cell
  simp [loadVar, go_sem, h0, h1, h2, h3]
theorem res_claim {fn : Func} {i : Tmp} (hf : fn.results = #[.cell i 45]) {tmps : Array Value} {w : World} {g : Nat} {c : Cd} (ht : tmps.getD i undef = .pointer (some ⟨g, 0, none⟩)) (h : CBox w g ⟨45, c⟩) :
    (results fn tmps).run Try.prog w = .ok c.val w := by
  have hl := load_claim h
  rw [Array.getD_eq_getD_getElem?] at ht
  simp only [results, hf]
  simp [Sem.run_bind, ht, asAddr, hl]
theorem CBox.set_ {w : World} {g : Nat} {t : TypeId} {x : Cd} (h : CBox w g ⟨t, x⟩) (y : Cd) : CBox ((((w.setCell ⟨g, 0, none⟩ (.int .i64 y.a)).setCell ⟨g, 1, none⟩ (.int .i64 y.b)).setCell ⟨g, 2, none⟩ (.int .i64 y.c)).setCell ⟨g, 3, none⟩ (.int .i64 y.d)) g ⟨t, y⟩ := by
  unfold CBox at h ⊢
  rw [heap_setCell_same _ g 3 _ _ _ (heap_setCell_same _ g 2 _ _ _ (heap_setCell_same _ g 1 _ _ _ (heap_setCell_same w g 0 _ _ _ h)))]
  rfl

set_option maxRecDepth 100000 in
set_option maxHeartbeats 1000000 in
theorem to_claim (x : Cd) (w : World) :
    Calls Try.prog 25 #[x.val] w fun e w' => e = .returned x.val ∧ Below w.heap.size w w' := by
  have K1 : Hid (CBox (((w.alloc (Cv.obj ⟨42, x⟩)).alloc (Cv.obj ⟨45, zero⟩)).alloc (Cv.obj ⟨45, zero⟩)) w.heap.size ⟨42, x⟩) := Lib.hid (((CBox.newAt rfl rfl).alloc _).alloc _)
  have K2 : Hid (CBox (((w.alloc (Cv.obj ⟨42, x⟩)).alloc (Cv.obj ⟨45, zero⟩)).alloc (Cv.obj ⟨45, zero⟩)) (w.heap.size + 1) ⟨45, zero⟩) := Lib.hid ((CBox.newAt (by simp) rfl).alloc _)
  have K3 : Hid (CBox (((w.alloc (Cv.obj ⟨42, x⟩)).alloc (Cv.obj ⟨45, zero⟩)).alloc (Cv.obj ⟨45, zero⟩)) (w.heap.size + 1 + 1) ⟨45, zero⟩) := Lib.hid (CBox.newAt (by simp) rfl)
  have HB : Hid (Below w.heap.size w (((w.alloc (Cv.obj ⟨42, x⟩)).alloc (Cv.obj ⟨45, zero⟩)).alloc (Cv.obj ⟨45, zero⟩))) := Lib.hid ((((Below.refl _ _).alloc (Nat.le_refl _) _).alloc (by simp) _).alloc (by simp; omega) _)
  go_enter Try.func25, Try.ntmps25
  go_upto_region 2 with fail
  generalize (((w.alloc (Cv.obj ⟨42, x⟩)).alloc (Cv.obj ⟨45, zero⟩)).alloc (Cv.obj ⟨45, zero⟩)) = W at K1 K2 K3 HB ⊢
  obtain ⟨k1a, k1b, k1c, k1d⟩ := K1.out.cell
  obtain ⟨k3a, k3b, k3c, k3d⟩ := K3.out.cell
  have k3f := K3.out.frozen
  have k3z := K3.out.lt
  go_upto_region 3 with fail
  obtain ⟨W1, hW1⟩ : ∃ W1, W1 = W.setCell ⟨w.heap.size + 1 + 1, 0, none⟩ (.int .i64 x.a) := ⟨_, rfl⟩
  have K1' := Lib.hid (K1.out.far (show w.heap.size ≠ w.heap.size + 1 + 1 by omega) 0 (.int .i64 x.a))
  have K2' := Lib.hid (K2.out.far (show w.heap.size + 1 ≠ w.heap.size + 1 + 1 by omega) 0 (.int .i64 x.a))
  have K3' : Hid (CBox (W.setCell ⟨w.heap.size + 1 + 1, 0, none⟩ (.int .i64 x.a)) (w.heap.size + 1 + 1) ⟨45, ⟨x.a, 0, 0, 0⟩⟩) := Lib.hid (by have h := K3.out; unfold CBox at h ⊢; rw [heap_setCell_same W _ 0 _ _ _ h]; rfl)
  have HB' := Lib.hid (HB.out.setCell (p := ⟨w.heap.size + 1 + 1, 0, none⟩) (show w.heap.size ≤ w.heap.size + 1 + 1 by omega) (.int .i64 x.a))
  rw [← hW1] at K1' K2' K3' HB' ⊢
  clear hW1 K1 K2 K3 HB k1a k1b k1c k1d k3a k3b k3c k3d k3f k3z
  obtain ⟨k1a, k1b, k1c, k1d⟩ := K1'.out.cell
  go_wp2_with fail
  refine (to_a3 ⟨x.b, x.c, x.d⟩ _).mono ?_
  rintro e w1 ⟨rfl, b⟩
  have K2 := Lib.hid (K2'.out.below b)
  have K3 := Lib.hid (K3'.out.below b)
  have HB := Lib.hid (chain0 HB'.out b)
  clear b K1' K2' K3' HB' k1a k1b k1c k1d
  obtain ⟨k3a, k3b, k3c, k3d⟩ := K3.out.cell
  have k3f := K3.out.frozen
  have k3z := K3.out.lt
  have k2f := K2.out.frozen
  have k2z := K2.out.lt
  obtain ⟨k2a, k2b, k2c, k2d⟩ := K2.out.cell
  go_wp2_with fail
  try simp only [Exit.inBlock, Exit.then]
  refine bodyPost_ret (res_claim Try.results25 rfl (CBox.set_ (((K2.out.far (show w.heap.size + 1 ≠ w.heap.size + 1 + 1 by omega) _ _).far (show w.heap.size + 1 ≠ w.heap.size + 1 + 1 by omega) _ _).far (show w.heap.size + 1 ≠ w.heap.size + 1 + 1 by omega) _ _) x)) rfl ?_
  exact ⟨rfl, by repeat (first | with_reducible exact Below.refl _ _ | with_reducible exact HB.out | with_reducible apply Below.drew | with_reducible apply bdN | with_reducible refine Below.alloc ?_ (by first | exact Nat.le_refl _ | with_reducible exact HB.out.size | omega | (simp; done) | (simp; omega) | (have := HB.out.size; simp at *; omega)) _ | with_reducible refine Below.setCell ?_ (by first | exact Nat.le_refl _ | with_reducible exact HB.out.size | omega | (simp; done) | (simp; omega) | (have := HB.out.size; simp at *; omega)) _)⟩

/-- The call owns a slice of the claims of a list, made from block B on, up to C. -/
structure OwnC (w : World) (B C : Nat) (v : Value) (l : List Cd) : Prop where
  o : w.ownsRow B 45 4 v l.length (flat l)
  c : ∀ g, v.ownBlock = some g → g < C
theorem OwnC.form {w : World} {B C : Nat} {v : Value} {l : List Cd} (h : OwnC w B C v l) : ∃ p c, v = .slice p l.length c ∧ l.length ≤ c ∧ Rd w p (flat l) ∧
    (0 < l.length → ∃ g, p = some ⟨g, 0, none⟩ ∧ B ≤ g ∧ g < w.heap.size ∧ ∀ k, w.frozen? ⟨g, k, none⟩ = false) := by
  have h' := h.o
  obtain ⟨_, ⟨rfl, h0⟩ | ⟨g, cap, cur, rfl, hB, hg, hnc, _⟩⟩ := h.o
  · exact ⟨none, 0, by rw [h0], by omega, fun hp => by rw [flat_len] at hp; omega, fun hp => by omega⟩
  · have hlt : g < w.heap.size := (Array.getElem?_eq_some_iff.1 hg).1
    refine ⟨_, cap, rfl, hnc, fun hp => ⟨g, 0, rfl, hlt, fun j x hx => ?_⟩, fun hp => ⟨g, rfl, hB, hlt, fun k => World.ownsRow.frozenAt h' k⟩⟩
    have hj : j < (flat l).length := (List.getElem?_eq_some_iff.1 hx).1
    rw [flat_len] at hj
    rw [Nat.zero_add, World.ownsRow.cellAt h' j (by omega)]
    exact hx
section
variable {w w1 : World} {B C : Nat} {v : Value} {l : List Cd}
theorem OwnC.below (h : OwnC w B C v l) (hb : Below w.heap.size w w1) : OwnC w1 B C v l :=
  ⟨World.ownsRow.kept (row := none) h.o ⟨hb.os, hb.tape, hb.output, hb.size, fun j hj _ => hb.block j hj⟩ (by cases hv : v.ownBlock <;> simp), h.c⟩
theorem OwnC.alloc (h : OwnC w B C v l) (o : Obj) : OwnC (w.alloc o) B C v l := h.below ((Below.refl _ _).alloc (Nat.le_refl _) o)
theorem OwnC.drew (h : OwnC w B C v l) : OwnC w.drew B C v l := ⟨h.o, h.c⟩
theorem OwnC.drewN (h : OwnC w B C v l) (k : Nat) : OwnC (w.drewN k) B C v l := ⟨h.o, h.c⟩
theorem OwnC.span (h : OwnC w B C v l) : ∀ g, v.ownBlock = some g → B ≤ g ∧ g < w.heap.size := World.ownsRow.lt h.o
theorem OwnC.out {a b : Nat} (h : OwnC w B C v l) (o : Out a b w w1) (hd : C ≤ a ∨ b ≤ B) : OwnC w1 B C v l := ⟨ownsRow_out h.o o (fun g e => by have := h.c g e; have := (h.span g e).1; omega), h.c⟩
theorem OwnC.base {B' : Nat} (h : OwnC w B C v l) (hB : B' ≤ B) : OwnC w B' C v l := by
  obtain ⟨⟨hl, h0 | ⟨g, cap, cur, e, hb, r⟩⟩, hc⟩ := h
  · exact ⟨⟨hl, .inl h0⟩, hc⟩
  · exact ⟨⟨hl, .inr ⟨g, cap, cur, e, Nat.le_trans hB hb, r⟩⟩, hc⟩
theorem OwnC.rd {p : Option Addr} {n c : Nat} (h : OwnC w B C (.slice p n c) l) : Rd w p (flat l) := by
  obtain ⟨p', c', e, _, hr, _⟩ := h.form
  injection e with e1 e2 e3
  rw [e1]; exact hr
theorem OwnC.nil0 {p : Option Addr} {n c : Nat} (h : OwnC w B C (.slice p n c) l) : p = none → c = 0 := fun e => by
  subst e
  obtain ⟨⟨_, ⟨e, _⟩ | ⟨g, cap, cur, e, _⟩⟩, _⟩ := h
  · injection e
  · injection e with e1 e2 e3; cases e1
end
/-- A claim is stored into the row, cell by cell. -/
theorem OwnC.store {w : World} {B C g n c : Nat} {l : List Cd} (hn : l.length = n) (h : OwnC w B C (.slice (some ⟨g, 0, none⟩) n c) l) (i : Nat) (hi : i < n) (x : Cd) :
    OwnC ((((w.setCell ⟨g, i * 4, none⟩ (.int .i64 x.a)).setCell ⟨g, i * 4 + 1, none⟩ (.int .i64 x.b)).setCell ⟨g, i * 4 + 2, none⟩ (.int .i64 x.c)).setCell ⟨g, i * 4 + 3, none⟩ (.int .i64 x.d)) B C (.slice (some ⟨g, 0, none⟩) n c) (l.set i x) := by
  subst hn
  obtain ⟨ho, hc⟩ := h
  refine ⟨?_, hc⟩
  have h1 := (((World.ownsRow.stored (World.ownsRow.stored (World.ownsRow.stored (World.ownsRow.stored ho (i * 4) (.int .i64 x.a)).1 (i * 4 + 1) (.int .i64 x.b)).1 (i * 4 + 2) (.int .i64 x.c)).1 (i * 4 + 3) (.int .i64 x.d)).1))
  rw [flat_set l i x hi] at h1
  rw [List.length_set]
  exact h1
theorem OwnC.slots {w : World} {B C g n c : Nat} {l : List Cd} (hn : l.length = n) (h : OwnC w B C (.slice (some ⟨g, 0, none⟩) n c) l) (i : Nat) (hi : i < n) :
    ∃ y : Cd, l[i]? = some y ∧ w.cell? ⟨g, i * 4, none⟩ = some (.int .i64 y.a) ∧ w.cell? ⟨g, i * 4 + 1, none⟩ = some (.int .i64 y.b) ∧ w.cell? ⟨g, i * 4 + 2, none⟩ = some (.int .i64 y.c) ∧ w.cell? ⟨g, i * 4 + 3, none⟩ = some (.int .i64 y.d) ∧
      (∀ k, w.frozen? ⟨g, k, none⟩ = false) ∧ B ≤ g ∧ g < w.heap.size := by
  subst hn
  obtain ⟨p, c', e, _, hr, hg⟩ := h.form
  obtain ⟨g', eg, hB, hlt, hf⟩ := hg (by omega)
  obtain ⟨b, o, y, ep, hb, hy, d0, d1, d2, d3⟩ := hr.card hi
  injection e with e1 e2 e3
  rw [← e1] at eg ep
  injection eg with eg
  injection eg with eg
  subst eg
  injection ep with ep
  injection ep with eb eo
  subst eb; subst eo
  simp only [Nat.zero_add] at d0 d1 d2 d3
  exact ⟨y, hy, d0, d1, d2, d3, hf, hB, hlt⟩
theorem claim_info : ((Try.prog).info? 45).map (fun i => (i.zero, i.size, i.bytes)) = some (some (.agg #[.int .i64 0, .int .i64 0, .int .i64 0, .int .i64 0]), 4, 32) := by kernel_rfl
theorem madeC (n : Nat) (hn : n ≤ 1000000000) (w : World) : (Instr.makeSlice 55 (.int .i64 n) (.int .i64 n)).run Try.prog w = .ok (.slice (some ⟨w.heap.size, 0, none⟩) n n) (w.alloc (.cells (madeCells (Value.agg #[.int .i64 0, .int .i64 0, .int .i64 0, .int .i64 0]).cells (n * 4)) 45)) := by
  obtain ⟨i, hi, hz, hs, hb⟩ := info_parts claim_info
  have h := run_make (P := Try.prog) w 55 45 i _ Try.underlying55 hi hz .i64 .i64 n n (by omega) (by omega) (by rw [hb]; omega) (by omega)
  rw [hs] at h
  simpa using h
theorem own_madeC (w : World) (n : Nat) (hn : n ≤ 1000000000) : OwnC (w.alloc (.cells (madeCells (Value.agg #[.int .i64 0, .int .i64 0, .int .i64 0, .int .i64 0]).cells (n * 4)) 45)) w.heap.size (w.heap.size + 1) (.slice (some ⟨w.heap.size, 0, none⟩) n n) (List.replicate n zero) := by
  refine ⟨?_, fun g e => by have e2 : some w.heap.size = some g := e; injection e2 with e2; omega⟩
  rw [List.length_replicate]
  refine ⟨by rw [flat_len, List.length_replicate]; omega, .inr ⟨w.heap.size, n, _, rfl, Nat.le_refl _, heap_alloc_new w _, Nat.le_refl _, by simp only [maxLen]; omega, size_madeCells _ _, ?_⟩⟩
  rw [made_zero, flat_rep, List.take_of_length_le (by simp)]

set_option maxRecDepth 100000 in
set_option maxHeartbeats 2000000 in
theorem to_claims (l : List Cd) (p : Option Addr) (n c : Nat) (w : World) (hn : l.length = n) (hl : n ≤ 1000000000) (hr : Rd w p (flat l)) :
    Calls Try.prog 31 #[.slice p n c] w fun e w' => ∃ p' c', e = .returned (.slice p' n c') ∧ OwnC w' w.heap.size w'.heap.size (.slice p' n c') l ∧ Rd w' p' (flat l) ∧ n ≤ c' ∧ Below w.heap.size w w' := by
  have HN := Lib.hid hn
  have HR := Lib.hid hr
  have hmk := madeC n hl
  clear hn hr
  go_enter Try.func31, Try.ntmps31
  go_wp2_with fail
  clear hmk
  go_loopw [4] (fun i wr => ∃ k : Nat, k ≤ n ∧ i = .int .i64 k ∧ Hid (OwnC wr w.heap.size (w.heap.size + 1) (.slice (some ⟨w.heap.size, 0, none⟩) n n) (cards.part l n k)) ∧ Hid (Below w.heap.size w wr) ∧ w.heap.size + 1 ≤ wr.heap.size) (fun i _ => n - (intOf i).toNat)
  case atStart => exact ⟨0, Nat.zero_le _, rfl, by rw [part_zero]; exact own_madeC w n hl, (Below.refl _ _).alloc (Nat.le_refl _) _, by simp⟩
  case round =>
    obtain ⟨k, hk, rfl, HO, HB, hz1⟩ := hrel
    by_cases hlt : k < n
    · obtain ⟨b, o, x, rfl, hb, hx, c0, c1, c2, c3⟩ := (HR.out.below HB.out).card (k := k) (by rw [HN.out]; exact hlt)
      have HX := Lib.hid hx
      have b0 : (0 : Int) ≤ (k : Int) := by omega
      have b1 : (k : Int) < (n : Int) := by omega
      clear hx
      have HZ1 := Lib.hid hz1
      clear hz1
      go_wp2_with fail
      refine ((to_claim x _)).mono ?_
      rintro e w1 ⟨rfl, b⟩
      have Sw1 := Lib.hid b.size
      have HB := Lib.hid (chain0 (w := w) (by repeat (first | with_reducible exact Below.refl _ _ | with_reducible exact HB.out | with_reducible apply Below.drew | with_reducible apply bdN | with_reducible refine Below.alloc ?_ (by first | exact Nat.le_refl _ | with_reducible exact HB.out.size | omega | (simp; done) | (simp; omega) | (have := HB.out.size; simp at *; omega)) _ | with_reducible refine Below.setCell ?_ (by first | exact Nat.le_refl _ | with_reducible exact HB.out.size | omega | (simp; done) | (simp; omega) | (have := HB.out.size; simp at *; omega)) _)) b)
      have HO := Lib.hid (OwnC.below (by repeat (first | with_reducible exact HO.out | with_reducible apply OwnC.drewN | with_reducible apply OwnC.drew | with_reducible apply OwnC.alloc)) b)
      clear b
      clear c0 c1 c2 c3
      have HP := Lib.hid (part_set (n := n) HN.out hlt HX.out)
      obtain ⟨y, hy, d0, d1, d2, d3, hf, hB, hg⟩ := HO.out.slots (part_len HN.out hk) k hlt
      have hz := HB.out.size
      clear hy
      have HS := Lib.hid (HO.out.store (part_len HN.out hk) k hlt x)
      rw [HP.out] at HS
      clear HO
      go_wp2_with fail
      go_roundw
      case rel => exact ⟨k + 1, by omega, by go_num, HS, Lib.hid (by repeat (first | with_reducible exact Below.refl _ _ | with_reducible exact HB.out | with_reducible apply Below.drew | with_reducible apply bdN | with_reducible refine Below.alloc ?_ (by first | exact Nat.le_refl _ | with_reducible exact HB.out.size | omega | (simp; done) | (simp; omega) | (have := HB.out.size; simp at *; omega)) _ | with_reducible refine Below.setCell ?_ (by first | exact Nat.le_refl _ | with_reducible exact HB.out.size | omega | (simp; done) | (simp; omega) | (have := HB.out.size; simp at *; omega)) _)), by have h1 := Sw1.out; have h2 := HZ1.out; simp [World.setCell] at h1 ⊢; omega⟩
      case measure => simp [intOf]; omega
    · obtain rfl : k = n := by omega
      rw [part_all HN.out] at HO
      have HOf : Hid (OwnC wr w.heap.size wr.heap.size (.slice (some ⟨w.heap.size, 0, none⟩) k k) l) := Lib.hid ⟨HO.out.o, fun g e => Nat.lt_of_lt_of_le (HO.out.c g e) hz1⟩
      go_wp2_with fail
      go_ret
      exact ⟨_, _, rfl, HOf.out, HOf.out.rd, Nat.le_refl _, HB.out⟩
end Go.Proofs.Yteccbcbijfcpmaa.game
