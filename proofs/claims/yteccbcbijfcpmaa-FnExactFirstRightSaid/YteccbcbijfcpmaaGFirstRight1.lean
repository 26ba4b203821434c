/- Merged texts: E3, El, Eu, Ev, Eo, Ew, Jd, Jf. -/
import Derived.Test.YteccbcbijfcpmaaR3
import Derived.Test.YteccbcbijfcpmaaEe
import Derived.Test.YteccbcbijfcpmaaGFirstRight0
import Derived.Test.YteccbcbijfcpmaaQn
import Derived.BigQuiet
import Derived.Test.YteccbcbijfcpmaaUb
import Derived.Test.YteccbcbijfcpmaaQs
import Derived.Test.YteccbcbijfcpmaaQx
/- Slices of arrays of 3 numbers: comparisons, marks, and marks looked for again. -/
namespace Go.Proofs.Yteccbcbijfcpmaa.cards
open Go.RowKit
set_option linter.unusedVariables false

def same_A3 (x y : A3) : Bool := decide (x.a = y.a ∧ x.b = y.b ∧ x.c = y.c)
theorem same_A3_self (x : A3) : same_A3 x x = true := by simp [same_A3]
theorem same_A3_n0 {x y : A3} (h : (x.a != y.a) = true) : false = same_A3 x y := by unfold same_A3; simp at h ⊢; omega
theorem same_A3_n1 {x y : A3} (h : (x.b != y.b) = true) : false = same_A3 x y := by unfold same_A3; simp at h ⊢; omega
theorem same_A3_n2 {x y : A3} (h : (x.c != y.c) = true) : false = same_A3 x y := by unfold same_A3; simp at h ⊢; omega
theorem same_A3_y {x y : A3} (h0 : (x.a != y.a) = false) (h1 : (x.b != y.b) = false) (h2 : (x.c != y.c) = false) : true = same_A3 x y := by unfold same_A3; simp at h0 h1 h2 ⊢; omega
set_option maxRecDepth 100000 in
set_option maxHeartbeats 1000000 in
theorem eq_A3 (x y : A3) (w : World) :
    Calls Try.prog 116 #[x.val, y.val] w fun e w' => e = .returned (.bool (same_A3 x y)) ∧ Below w.heap.size w w' := by
  go_enter Try.func116, Try.ntmps116
  go_wp2
  refine wp_loop_rounds 4 ?_
  repeat (any_goals (rw [rounds_succ]; go_wp2; try (go_quiet (fail); go_wp2)))
  all_goals go_ret
  all_goals refine ⟨ret_bool ?_, by repeat (first | with_reducible exact Below.refl _ _ | with_reducible exact HB.out | with_reducible apply Below.drew | with_reducible apply bdN | with_reducible refine Below.alloc ?_ (by first | exact Nat.le_refl _ | with_reducible exact HB.out.size | omega | (simp; done) | (simp; omega) | (have := HB.out.size; simp at *; omega)) _ | with_reducible refine Below.setCell ?_ (by first | exact Nat.le_refl _ | with_reducible exact HB.out.size | omega | (simp; done) | (simp; omega) | (have := HB.out.size; simp at *; omega)) _)⟩
  all_goals first | exact same_A3_n0 ‹_› | exact same_A3_n1 ‹_› | exact same_A3_n2 ‹_› | exact same_A3_y ‹_› ‹_› ‹_›

def mkA3 (k i : Nat) : A3 := ⟨(k : Int) + 3 * (i : Int), (k : Int) + 3 * (i : Int) + 1, (k : Int) + 3 * (i : Int) + 1 + 1⟩
def mksA3 (k : Nat) (l : List A3) (i : Nat) : List A3 := (List.range i).map (mkA3 k) ++ l.drop i
theorem mksA3_zero (k : Nat) (l : List A3) : mksA3 k l 0 = l := by simp [mksA3]
theorem mksA3_len {k : Nat} {l : List A3} {n i : Nat} (h : l.length = n) (hi : i ≤ n) : (mksA3 k l i).length = n := by simp [mksA3]; omega
theorem mksA3_set {k : Nat} {l : List A3} {n i : Nat} (h : l.length = n) (hi : i < n) : (mksA3 k l i).set i (mkA3 k i) = mksA3 k l (i + 1) := by
  unfold mksA3
  rw [List.set_append_right _ _ (by simp), List.range_succ, List.map_append, List.append_assoc]
  have e : i - ((List.range i).map (mkA3 k)).length = 0 := by simp
  rw [e, List.drop_eq_getElem_cons (by omega)]
  rfl
def markedA3 (k n : Nat) : List A3 := (List.range n).map (mkA3 k)
theorem mksA3_all {k : Nat} {l : List A3} {n : Nat} (h : l.length = n) : mksA3 k l n = markedA3 k n := by simp [mksA3, markedA3, ← h]
theorem markedA3_len (k n : Nat) : (markedA3 k n).length = n := by simp [markedA3]
theorem markedA3_at {k n i : Nat} (h : i < n) : (markedA3 k n)[i]? = some (mkA3 k i) := by simp [markedA3, h]

end Go.Proofs.Yteccbcbijfcpmaa.cards

/- Claims that the law makes, and slices of numbers between two blocks. -/
namespace Go.Proofs.Yteccbcbijfcpmaa.game
open Go.RowKit
open cards deal
set_option linter.unusedVariables false

/-! Slices of numbers between two blocks. -/
structure OwnS (w : World) (B C : Nat) (v : Value) (l : List Int) : Prop where
  o : OwnI w B v l
  c : ∀ g, v.ownBlock = some g → g < C
section
variable {w w1 : World} {B C : Nat} {v : Value} {l : List Int}
theorem OwnS.below (h : OwnS w B C v l) (b : Below w.heap.size w w1) : OwnS w1 B C v l := ⟨h.o.below b, h.c⟩
theorem OwnS.alloc (h : OwnS w B C v l) (o : Obj) : OwnS (w.alloc o) B C v l := ⟨h.o.alloc o, h.c⟩
theorem OwnS.drew (h : OwnS w B C v l) : OwnS w.drew B C v l := ⟨h.o.drew, h.c⟩
theorem OwnS.drewN (h : OwnS w B C v l) (k : Nat) : OwnS (w.drewN k) B C v l := ⟨h.o.drewN k, h.c⟩
theorem OwnS.out {a b : Nat} (h : OwnS w B C v l) (o : Out a b w w1) (hd : C ≤ a ∨ b ≤ B) : OwnS w1 B C v l := ⟨OwnI.out h.o o (fun g e => by have := h.c g e; have := (h.o.span g e).1; omega), h.c⟩
theorem OwnS.base {B' : Nat} (h : OwnS w B C v l) (hB : B' ≤ B) : OwnS w B' C v l := ⟨OwnI.base h.o hB, h.c⟩
theorem OwnS.rd {p : Option Addr} {n c : Nat} (h : OwnS w B C (.slice p n c) l) : Rd w p (ints l) := h.o.rd
theorem OwnS.of (h : OwnI w B v l) : OwnS w B w.heap.size v l := ⟨h, fun g e => (h.span g e).2⟩
end
set_option maxHeartbeats 400000 in
theorem mark_intsS (l : List Int) (v : Value) (B C k0 n : Nat) (w : World) (hn : l.length = n) (hl : k0 + n ≤ 1000000000) (hC : C ≤ w.heap.size) (hB : B ≤ C) (ho : OwnS w B C v l) :
    Calls Try.prog 39 #[v, .int .i64 k0] w fun e w' => e = .returned (.int .i64 (k0 + n : Nat)) ∧ OwnS w' B C v (markedI k0 n) ∧ Out B C w w' :=
  (mark_ints l v B k0 n w hn hl (by omega) ho.o).mono fun e w' ⟨he, h1, h2⟩ => ⟨he, ⟨h1, ho.c⟩, Out.grown h2 (fun g e => ⟨(ho.o.span g e).1, ho.c g e⟩)⟩

/-! Claims. -/
set_option maxRecDepth 100000 in
theorem to_a3 (x : A3) (w : World) :
    Calls Try.prog 69 #[x.val] w fun e w' => e = .returned x.val ∧ Below w.heap.size w w' := by
  go_enter Try.func69, Try.ntmps69
  go_wp2
  go_rounds 4
  exact bodyPost_ret (v := x.val) (by simp [results, Try.results69, go_sem]) rfl ⟨rfl, by repeat (first | with_reducible exact Below.refl _ _ | with_reducible exact HB.out | with_reducible apply Below.drew | with_reducible apply bdN | with_reducible refine Below.alloc ?_ (by first | exact Nat.le_refl _ | with_reducible exact HB.out.size | omega | (simp; done) | (simp; omega) | (have := HB.out.size; simp at *; omega)) _ | with_reducible refine Below.setCell ?_ (by first | exact Nat.le_refl _ | with_reducible exact HB.out.size | omega | (simp; done) | (simp; omega) | (have := HB.out.size; simp at *; omega)) _)⟩
/-- A block that holds a claim. -/
structure Cv where
  t : TypeId
  c : Cd
abbrev Cv.obj (x : Cv) : Obj := .cells #[.int .i64 x.c.a, .int .i64 x.c.b, .int .i64 x.c.c, .int .i64 x.c.d] x.t
def CBox (w : World) (g : Nat) (x : Cv) : Prop := w.heap[g]? = some x.obj
section
variable {w w1 : World} {g : Nat} {x : Cv}
theorem CBox.lt (h : CBox w g x) : g < w.heap.size := (Array.getElem?_eq_some_iff.1 h).1
theorem CBox.newAt {o : Obj} (h : w.heap.size = g) (ho : o = x.obj) : CBox (w.alloc o) g x := by subst h; subst ho; exact heap_alloc_new w _
theorem CBox.alloc (h : CBox w g x) (o : Obj) : CBox (w.alloc o) g x := (Below.heap_alloc w o g h.lt).trans h
theorem CBox.drew (h : CBox w g x) : CBox w.drew g x := h
theorem CBox.drewN (h : CBox w g x) (n : Nat) : CBox (w.drewN n) g x := h
theorem CBox.below (h : CBox w g x) (b : Below w.heap.size w w1) : CBox w1 g x := (b.block g h.lt).trans h
theorem CBox.cell (h : CBox w g x) : w.cell? ⟨g, 0, none⟩ = some (.int .i64 x.c.a) ∧ w.cell? ⟨g, 1, none⟩ = some (.int .i64 x.c.b) ∧ w.cell? ⟨g, 2, none⟩ = some (.int .i64 x.c.c) ∧ w.cell? ⟨g, 3, none⟩ = some (.int .i64 x.c.d) := by
  unfold CBox at h
  exact ⟨by rw [cell_of_row w g 0 _ _ _ h]; rfl, by rw [cell_of_row w g 1 _ _ _ h]; rfl, by rw [cell_of_row w g 2 _ _ _ h]; rfl, by rw [cell_of_row w g 3 _ _ _ h]; rfl⟩
theorem CBox.frozen (h : CBox w g x) : ∀ i, w.frozen? ⟨g, i, none⟩ = false := fun i => frozen_of_row w g i _ _ h
theorem CBox.out {a b : Nat} (h : CBox w g x) (o : Out a b w w1) (hg : g < a ∨ b ≤ g) : CBox w1 g x := (o.block g h.lt hg).trans h
theorem CBox.far (h : CBox w g x) {g2 : Nat} (hp : g ≠ g2) (o : Nat) (u : Value) : CBox (w.setCell ⟨g2, o, none⟩ u) g x := (Below.heap_setCell w ⟨g2, o, none⟩ u g hp).trans h
end
theorem load_claim {w : World} {g : Nat} {c : Cd} (h : CBox w g ⟨45, c⟩) : (loadVar 45 ⟨g, 0, none⟩).run Try.prog w = .ok c.val w := by
  obtain ⟨h0, h1, h2, h3⟩ := h.cell
  simp [loadVar, go_sem, h0, h1, h2, h3]
theorem res_claim {fn : Func} {i : Tmp} (hf : fn.results = #[.cell i 45]) {tmps : Array Value} {w : World} {g : Nat} {c : Cd} (ht : tmps.getD i undef = .pointer (some ⟨g, 0, none⟩)) (h : CBox w g ⟨45, c⟩) :
    (results fn tmps).run Try.prog w = .ok c.val w := by
  have hl := load_claim h
  rw [Array.getD_eq_getD_getElem?] at ht
  simp only [results, hf]
  simp [Sem.run_bind, ht, asAddr, hl]
theorem CBox.set_ {w : World} {g : Nat} {t : TypeId} {x : Cd} (h : CBox w g ⟨t, x⟩) (y : Cd) : CBox ((((w.setCell ⟨g, 0, none⟩ (.int .i64 y.a)).setCell ⟨g, 1, none⟩ (.int .i64 y.b)).setCell ⟨g, 2, none⟩ (.int .i64 y.c)).setCell ⟨g, 3, none⟩ (.int .i64 y.d)) g ⟨t, y⟩ := by
  unfold CBox at h ⊢
  rw [heap_setCell_same _ g 3 _ _ _ (heap_setCell_same _ g 2 _ _ _ (heap_setCell_same _ g 1 _ _ _ (heap_setCell_same w g 0 _ _ _ h)))]
  rfl

set_option maxRecDepth 100000 in
set_option maxHeartbeats 1000000 in
theorem to_claim (x : Cd) (w : World) :
    Calls Try.prog 25 #[x.val] w fun e w' => e = .returned x.val ∧ Below w.heap.size w w' := by
  have K1 : Hid (CBox (((w.alloc (Cv.obj ⟨42, x⟩)).alloc (Cv.obj ⟨45, zero⟩)).alloc (Cv.obj ⟨45, zero⟩)) w.heap.size ⟨42, x⟩) := Lib.hid (((CBox.newAt rfl rfl).alloc _).alloc _)
  have K2 : Hid (CBox (((w.alloc (Cv.obj ⟨42, x⟩)).alloc (Cv.obj ⟨45, zero⟩)).alloc (Cv.obj ⟨45, zero⟩)) (w.heap.size + 1) ⟨45, zero⟩) := Lib.hid ((CBox.newAt (by simp) rfl).alloc _)
  have K3 : Hid (CBox (((w.alloc (Cv.obj ⟨42, x⟩)).alloc (Cv.obj ⟨45, zero⟩)).alloc (Cv.obj ⟨45, zero⟩)) (w.heap.size + 1 + 1) ⟨45, zero⟩) := Lib.hid (CBox.newAt (by simp) rfl)
  have HB : Hid (Below w.heap.size w (((w.alloc (Cv.obj ⟨42, x⟩)).alloc (Cv.obj ⟨45, zero⟩)).alloc (Cv.obj ⟨45, zero⟩))) := Lib.hid ((((Below.refl _ _).alloc (Nat.le_refl _) _).alloc (by simp) _).alloc (by simp; omega) _)
  go_enter Try.func25, Try.ntmps25
  go_upto_region 2 with fail
  generalize (((w.alloc (Cv.obj ⟨42, x⟩)).alloc (Cv.obj ⟨45, zero⟩)).alloc (Cv.obj ⟨45, zero⟩)) = W at K1 K2 K3 HB ⊢
  obtain ⟨k1a, k1b, k1c, k1d⟩ := K1.out.cell
  obtain ⟨k3a, k3b, k3c, k3d⟩ := K3.out.cell
  have k3f := K3.out.frozen
  have k3z := K3.out.lt
  go_upto_region 3 with fail
  obtain ⟨W1, hW1⟩ : ∃ W1, W1 = W.setCell ⟨w.heap.size + 1 + 1, 0, none⟩ (.int .i64 x.a) := ⟨_, rfl⟩
  have K1' := Lib.hid (K1.out.far (show w.heap.size ≠ w.heap.size + 1 + 1 by omega) 0 (.int .i64 x.a))
  have K2' := Lib.hid (K2.out.far (show w.heap.size + 1 ≠ w.heap.size + 1 + 1 by omega) 0 (.int .i64 x.a))
  have K3' : Hid (CBox (W.setCell ⟨w.heap.size + 1 + 1, 0, none⟩ (.int .i64 x.a)) (w.heap.size + 1 + 1) ⟨45, ⟨x.a, 0, 0, 0⟩⟩) := Lib.hid (by have h := K3.out; unfold CBox at h ⊢; rw [heap_setCell_same W _ 0 _ _ _ h]; rfl)
  have HB' := Lib.hid (HB.out.setCell (p := ⟨w.heap.size + 1 + 1, 0, none⟩) (show w.heap.size ≤ w.heap.size + 1 + 1 by omega) (.int .i64 x.a))
  rw [← hW1] at K1' K2' K3' HB' ⊢
  clear hW1 K1 K2 K3 HB k1a k1b k1c k1d k3a k3b k3c k3d k3f k3z
  obtain ⟨k1a, k1b, k1c, k1d⟩ := K1'.out.cell
  go_wp2_with fail
  refine (to_a3 ⟨x.b, x.c, x.d⟩ _).mono ?_
  rintro e w1 ⟨rfl, b⟩
  have K2 := Lib.hid (K2'.out.below b)
  have K3 := Lib.hid (K3'.out.below b)
  have HB := Lib.hid (chain0 HB'.out b)
  clear b K1' K2' K3' HB' k1a k1b k1c k1d
  obtain ⟨k3a, k3b, k3c, k3d⟩ := K3.out.cell
  have k3f := K3.out.frozen
  have k3z := K3.out.lt
  have k2f := K2.out.frozen
  have k2z := K2.out.lt
  obtain ⟨k2a, k2b, k2c, k2d⟩ := K2.out.cell
  go_wp2_with fail
  try simp only [Exit.inBlock, Exit.then]
  refine bodyPost_ret (res_claim Try.results25 rfl (CBox.set_ (((K2.out.far (show w.heap.size + 1 ≠ w.heap.size + 1 + 1 by omega) _ _).far (show w.heap.size + 1 ≠ w.heap.size + 1 + 1 by omega) _ _).far (show w.heap.size + 1 ≠ w.heap.size + 1 + 1 by omega) _ _) x)) rfl ?_
  exact ⟨rfl, by repeat (first | with_reducible exact Below.refl _ _ | with_reducible exact HB.out | with_reducible apply Below.drew | with_reducible apply bdN | with_reducible refine Below.alloc ?_ (by first | exact Nat.le_refl _ | with_reducible exact HB.out.size | omega | (simp; done) | (simp; omega) | (have := HB.out.size; simp at *; omega)) _ | with_reducible refine Below.setCell ?_ (by first | exact Nat.le_refl _ | with_reducible exact HB.out.size | omega | (simp; done) | (simp; omega) | (have := HB.out.size; simp at *; omega)) _)⟩

/-- The call owns a slice of the claims of a list, made from block B on, up to C. -/
structure OwnC (w : World) (B C : Nat) (v : Value) (l : List Cd) : Prop where
  o : w.ownsRow B 45 4 v l.length (flat l)
  c : ∀ g, v.ownBlock = some g → g < C
theorem OwnC.form {w : World} {B C : Nat} {v : Value} {l : List Cd} (h : OwnC w B C v l) : ∃ p c, v = .slice p l.length c ∧ l.length ≤ c ∧ Rd w p (flat l) ∧
    (0 < l.length → ∃ g, p = some ⟨g, 0, none⟩ ∧ B ≤ g ∧ g < w.heap.size ∧ ∀ k, w.frozen? ⟨g, k, none⟩ = false) := by
  have h' := h.o
  obtain ⟨_, ⟨rfl, h0⟩ | ⟨g, cap, cur, rfl, hB, hg, hnc, _⟩⟩ := h.o
  · exact ⟨none, 0, by rw [h0], by omega, fun hp => by rw [flat_len] at hp; omega, fun hp => by omega⟩
  · have hlt : g < w.heap.size := (Array.getElem?_eq_some_iff.1 hg).1
    refine ⟨_, cap, rfl, hnc, fun hp => ⟨g, 0, rfl, hlt, fun j x hx => ?_⟩, fun hp => ⟨g, rfl, hB, hlt, fun k => World.ownsRow.frozenAt h' k⟩⟩
    have hj : j < (flat l).length := (List.getElem?_eq_some_iff.1 hx).1
    rw [flat_len] at hj
    rw [Nat.zero_add, World.ownsRow.cellAt h' j (by omega)]
    exact hx
section
variable {w w1 : World} {B C : Nat} {v : Value} {l : List Cd}
theorem OwnC.below (h : OwnC w B C v l) (hb : Below w.heap.size w w1) : OwnC w1 B C v l :=
  ⟨World.ownsRow.kept (row := none) h.o ⟨hb.os, hb.tape, hb.output, hb.size, fun j hj _ => hb.block j hj⟩ (by cases hv : v.ownBlock <;> simp), h.c⟩
theorem OwnC.alloc (h : OwnC w B C v l) (o : Obj) : OwnC (w.alloc o) B C v l := h.below ((Below.refl _ _).alloc (Nat.le_refl _) o)
theorem OwnC.drew (h : OwnC w B C v l) : OwnC w.drew B C v l := ⟨h.o, h.c⟩
theorem OwnC.drewN (h : OwnC w B C v l) (k : Nat) : OwnC (w.drewN k) B C v l := ⟨h.o, h.c⟩
theorem OwnC.span (h : OwnC w B C v l) : ∀ g, v.ownBlock = some g → B ≤ g ∧ g < w.heap.size := World.ownsRow.lt h.o
theorem OwnC.out {a b : Nat} (h : OwnC w B C v l) (o : Out a b w w1) (hd : C ≤ a ∨ b ≤ B) : OwnC w1 B C v l := ⟨ownsRow_out h.o o (fun g e => by have := h.c g e; have := (h.span g e).1; omega), h.c⟩
theorem OwnC.base {B' : Nat} (h : OwnC w B C v l) (hB : B' ≤ B) : OwnC w B' C v l := by
  obtain ⟨⟨hl, h0 | ⟨g, cap, cur, e, hb, r⟩⟩, hc⟩ := h
  · exact ⟨⟨hl, .inl h0⟩, hc⟩
  · exact ⟨⟨hl, .inr ⟨g, cap, cur, e, Nat.le_trans hB hb, r⟩⟩, hc⟩
theorem OwnC.rd {p : Option Addr} {n c : Nat} (h : OwnC w B C (.slice p n c) l) : Rd w p (flat l) := by
  obtain ⟨p', c', e, _, hr, _⟩ := h.form
  injection e with e1 e2 e3
  rw [e1]; exact hr
theorem OwnC.nil0 {p : Option Addr} {n c : Nat} (h : OwnC w B C (.slice p n c) l) : p = none → c = 0 := fun e => by
  subst e
  obtain ⟨⟨_, ⟨e, _⟩ | ⟨g, cap, cur, e, _⟩⟩, _⟩ := h
  · injection e
  · injection e with e1 e2 e3; cases e1
end
/-- A claim is stored into the row, cell by cell. -/
theorem OwnC.store {w : World} {B C g n c : Nat} {l : List Cd} (hn : l.length = n) (h : OwnC w B C (.slice (some ⟨g, 0, none⟩) n c) l) (i : Nat) (hi : i < n) (x : Cd) :
    OwnC ((((w.setCell ⟨g, i * 4, none⟩ (.int .i64 x.a)).setCell ⟨g, i * 4 + 1, none⟩ (.int .i64 x.b)).setCell ⟨g, i * 4 + 2, none⟩ (.int .i64 x.c)).setCell ⟨g, i * 4 + 3, none⟩ (.int .i64 x.d)) B C (.slice (some ⟨g, 0, none⟩) n c) (l.set i x) := by
  subst hn
  obtain ⟨ho, hc⟩ := h
  refine ⟨?_, hc⟩
  have h1 := (((World.ownsRow.stored (World.ownsRow.stored (World.ownsRow.stored (World.ownsRow.stored ho (i * 4) (.int .i64 x.a)).1 (i * 4 + 1) (.int .i64 x.b)).1 (i * 4 + 2) (.int .i64 x.c)).1 (i * 4 + 3) (.int .i64 x.d)).1))
  rw [flat_set l i x hi] at h1
  rw [List.length_set]
  exact h1
theorem OwnC.slots {w : World} {B C g n c : Nat} {l : List Cd} (hn : l.length = n) (h : OwnC w B C (.slice (some ⟨g, 0, none⟩) n c) l) (i : Nat) (hi : i < n) :
    ∃ y : Cd, l[i]? = some y ∧ w.cell? ⟨g, i * 4, none⟩ = some (.int .i64 y.a) ∧ w.cell? ⟨g, i * 4 + 1, none⟩ = some (.int .i64 y.b) ∧ w.cell? ⟨g, i * 4 + 2, none⟩ = some (.int .i64 y.c) ∧ w.cell? ⟨g, i * 4 + 3, none⟩ = some (.int .i64 y.d) ∧
      (∀ k, w.frozen? ⟨g, k, none⟩ = false) ∧ B ≤ g ∧ g < w.heap.size := by
  subst hn
  obtain ⟨p, c', e, _, hr, hg⟩ := h.form
  obtain ⟨g', eg, hB, hlt, hf⟩ := hg (by omega)
  obtain ⟨b, o, y, ep, hb, hy, d0, d1, d2, d3⟩ := hr.card hi
  injection e with e1 e2 e3
  rw [← e1] at eg ep
  injection eg with eg
  injection eg with eg
  subst eg
  injection ep with ep
  injection ep with eb eo
  subst eb; subst eo
  simp only [Nat.zero_add] at d0 d1 d2 d3
  exact ⟨y, hy, d0, d1, d2, d3, hf, hB, hlt⟩
theorem claim_info : ((Try.prog).info? 45).map (fun i => (i.zero, i.size, i.bytes)) = some (some (.agg #[.int .i64 0, .int .i64 0, .int .i64 0, .int .i64 0]), 4, 32) := by kernel_rfl
theorem madeC (n : Nat) (hn : n ≤ 1000000000) (w : World) : (Instr.makeSlice 55 (.int .i64 n) (.int .i64 n)).run Try.prog w = .ok (.slice (some ⟨w.heap.size, 0, none⟩) n n) (w.alloc (.cells (madeCells (Value.agg #[.int .i64 0, .int .i64 0, .int .i64 0, .int .i64 0]).cells (n * 4)) 45)) := by
  obtain ⟨i, hi, hz, hs, hb⟩ := info_parts claim_info
  have h := run_make (P := Try.prog) w 55 45 i _ Try.underlying55 hi hz .i64 .i64 n n (by omega) (by omega) (by rw [hb]; omega) (by omega)
  rw [hs] at h
  simpa using h
theorem own_madeC (w : World) (n : Nat) (hn : n ≤ 1000000000) : OwnC (w.alloc (.cells (madeCells (Value.agg #[.int .i64 0, .int .i64 0, .int .i64 0, .int .i64 0]).cells (n * 4)) 45)) w.heap.size (w.heap.size + 1) (.slice (some ⟨w.heap.size, 0, none⟩) n n) (List.replicate n zero) := by
  refine ⟨?_, fun g e => by have e2 : some w.heap.size = some g := e; injection e2 with e2; omega⟩
  rw [List.length_replicate]
  refine ⟨by rw [flat_len, List.length_replicate]; omega, .inr ⟨w.heap.size, n, _, rfl, Nat.le_refl _, heap_alloc_new w _, Nat.le_refl _, by simp only [maxLen]; omega, size_madeCells _ _, ?_⟩⟩
  rw [made_zero, flat_rep, List.take_of_length_le (by simp)]

set_option maxRecDepth 100000 in
set_option maxHeartbeats 2000000 in
theorem to_claims (l : List Cd) (p : Option Addr) (n c : Nat) (w : World) (hn : l.length = n) (hl : n ≤ 1000000000) (hr : Rd w p (flat l)) :
    Calls Try.prog 31 #[.slice p n c] w fun e w' => ∃ p' c', e = .returned (.slice p' n c') ∧ OwnC w' w.heap.size w'.heap.size (.slice p' n c') l ∧ Rd w' p' (flat l) ∧ n ≤ c' ∧ Below w.heap.size w w' := by
  have HN := Lib.hid hn
  have HR := Lib.hid hr
  have hmk := madeC n hl
  clear hn hr
  go_enter Try.func31, Try.ntmps31
  go_wp2_with fail
  clear hmk
  go_loopw [4] (fun i wr => ∃ k : Nat, k ≤ n ∧ i = .int .i64 k ∧ Hid (OwnC wr w.heap.size (w.heap.size + 1) (.slice (some ⟨w.heap.size, 0, none⟩) n n) (cards.part l n k)) ∧ Hid (Below w.heap.size w wr) ∧ w.heap.size + 1 ≤ wr.heap.size) (fun i _ => n - (intOf i).toNat)
  case atStart => exact ⟨0, Nat.zero_le _, rfl, by rw [part_zero]; exact own_madeC w n hl, (Below.refl _ _).alloc (Nat.le_refl _) _, by simp⟩
  case round =>
    obtain ⟨k, hk, rfl, HO, HB, hz1⟩ := hrel
    by_cases hlt : k < n
    · obtain ⟨b, o, x, rfl, hb, hx, c0, c1, c2, c3⟩ := (HR.out.below HB.out).card (k := k) (by rw [HN.out]; exact hlt)
      have HX := Lib.hid hx
      have b0 : (0 : Int) ≤ (k : Int) := by omega
      have b1 : (k : Int) < (n : Int) := by omega
      clear hx
      have HZ1 := Lib.hid hz1
      clear hz1
      go_wp2_with fail
      refine ((to_claim x _)).mono ?_
      rintro e w1 ⟨rfl, b⟩
      have Sw1 := Lib.hid b.size
      have HB := Lib.hid (chain0 (w := w) (by repeat (first | with_reducible exact Below.refl _ _ | with_reducible exact HB.out | with_reducible apply Below.drew | with_reducible apply bdN | with_reducible refine Below.alloc ?_ (by first | exact Nat.le_refl _ | with_reducible exact HB.out.size | omega | (simp; done) | (simp; omega) | (have := HB.out.size; simp at *; omega)) _ | with_reducible refine Below.setCell ?_ (by first | exact Nat.le_refl _ | with_reducible exact HB.out.size | omega | (simp; done) | (simp; omega) | (have := HB.out.size; simp at *; omega)) _)) b)
      have HO := Lib.hid (OwnC.below (by repeat (first | with_reducible exact HO.out | with_reducible apply OwnC.drewN | with_reducible apply OwnC.drew | with_reducible apply OwnC.alloc)) b)
      clear b
      clear c0 c1 c2 c3
      have HP := Lib.hid (part_set (n := n) HN.out hlt HX.out)
      obtain ⟨y, hy, d0, d1, d2, d3, hf, hB, hg⟩ := HO.out.slots (part_len HN.out hk) k hlt
      have hz := HB.out.size
      clear hy
      have HS := Lib.hid (HO.out.store (part_len HN.out hk) k hlt x)
      rw [HP.out] at HS
      clear HO
      go_wp2_with fail
      go_roundw
      case rel => exact ⟨k + 1, by omega, by go_num, HS, Lib.hid (by repeat (first | with_reducible exact Below.refl _ _ | with_reducible exact HB.out | with_reducible apply Below.drew | with_reducible apply bdN | with_reducible refine Below.alloc ?_ (by first | exact Nat.le_refl _ | with_reducible exact HB.out.size | omega | (simp; done) | (simp; omega) | (have := HB.out.size; simp at *; omega)) _ | with_reducible refine Below.setCell ?_ (by first | exact Nat.le_refl _ | with_reducible exact HB.out.size | omega | (simp; done) | (simp; omega) | (have := HB.out.size; simp at *; omega)) _)), by have h1 := Sw1.out; have h2 := HZ1.out; simp [World.setCell] at h1 ⊢; omega⟩
      case measure => simp [intOf]; omega
    · obtain rfl : k = n := by omega
      rw [part_all HN.out] at HO
      have HOf : Hid (OwnC wr w.heap.size wr.heap.size (.slice (some ⟨w.heap.size, 0, none⟩) k k) l) := Lib.hid ⟨HO.out.o, fun g e => Nat.lt_of_lt_of_le (HO.out.c g e) hz1⟩
      go_wp2_with fail
      go_ret
      exact ⟨_, _, rfl, HOf.out, HOf.out.rd, Nat.le_refl _, HB.out⟩
end Go.Proofs.Yteccbcbijfcpmaa.game

/- Is a claim right; its kind: the program's. -/
namespace Go.Proofs.Yteccbcbijfcpmaa.game
open Go.RowKit
open cards deal
set_option linter.unusedVariables false

theorem key_claim (x : Cd) (h : wfc x) : (Try.prog).keyLits 3 45 x.val.cells.toList = some (lits x) := by
  obtain ⟨w1, w2, w3, w4⟩ := h
  have ce : (Try.prog).cellsOf 3 = 1 := by kernel_rfl
  have c3 : (Try.prog).cellsOf 40 = 3 := by kernel_rfl
  have ct : (Try.prog).cellsOf 45 = 4 := by kernel_rfl
  simp [Program.keyLits, Try.underlying45, Try.underlying40, Try.underlying3, Value.cells, ce, c3, ct, w1, w2, w3, w4, show List.range 3 = [0, 1, 2] from rfl, lits]
theorem eqC_run (x y : Cd) (hx : wfc x) (hy : wfc y) (w : World) : (Op.equalIn 10000 45 x.val y.val).run Try.prog w = .ok (same x y) w := by
  obtain ⟨r, hr, hi⟩ := run_equalIn_deep (P := Try.prog) 9997 3 45 (by kernel_rfl) w 3 3 x.val y.val (lits x) (lits y) (by kernel_rfl) (by kernel_rfl) (key_claim x hx) (key_claim y hy)
  have e : r = same x y := by
    rw [Bool.eq_iff_iff, hi]
    simp [lits, same]
  rw [← e]
  exact hr
abbrev mkC (q : Int) (t : A3) : Cd := ⟨q, t.a, t.b, t.c⟩
theorem right_yes {l : List Cd} {ns : Nat} {c : Cd} {t : A3} {q : Nat} (hq : q < ns) (ht : t ∈ lines l) (h : same c (mkC q t) = true) : rightB l ns c = true := by
  have e := same_iff.1 h
  unfold rightB isP plc
  rw [e, Bool.and_eq_true]
  exact ⟨decide_eq_true (by simp only; omega), has3_iff.2 ht⟩
theorem right_no {l : List Cd} {ns : Nat} {c : Cd} (h : ∀ (k : Nat) t, (lines l)[k]? = some t → ∀ q : Nat, q < ns → same c (mkC q t) = false) : rightB l ns c = false := by
  cases hr : rightB l ns c
  · rfl
  · unfold rightB at hr
    rw [Bool.and_eq_true] at hr
    obtain ⟨h1, h2⟩ := hr
    unfold isP at h1
    have h1 := of_decide_eq_true h1
    obtain ⟨k, hk⟩ := List.mem_iff_getElem?.1 (has3_iff.1 h2)
    have := h k _ hk c.a.toNat (by omega)
    have e : mkC (c.a.toNat : Int) (plc c) = c := by
      obtain ⟨a, b, d, f⟩ := c
      simp only [mkC, plc, Cd.mk.injEq, and_true]
      simp only at h1
      omega
    rw [e] at this
    rw [same_self] at this
    cases this

set_option maxRecDepth 100000 in
set_option maxHeartbeats 4000000 in
theorem is_right (s nx : Int) (l : List Cd) (cl : Cd) (p ps pw : Option Addr) (n c ns cs nw cw : Nat) (w : World) (hn : l.length = n) (hl : n ≤ 81) (hns : ns ≤ 1000) (hr : Rd w p (flat l)) (hok : l.all Cd.ok = true) (hd : l.Nodup) (hw : wfc cl) :
    Calls Try.prog 105 #[gval s nx (.slice p n c) (.slice ps ns cs) (.slice pw nw cw), cl.val] w fun e w' => e = .returned (.bool (rightB l ns cl)) ∧ Below w.heap.size w w' := by
  have HR := Lib.hid hr
  have HW := Lib.hid hw
  have HLo := Lib.hid (fun w h => lines_of l p n c w hn hl h hok)
  have HLw := Lib.hid (lines_wf hd (by rw [hn]; exact hl))
  have HLl : Hid ((lines l).length ≤ 6561) := Lib.hid (by
    have h1 := lines_len l
    have h2 : l.length * l.length ≤ 81 * 81 := Nat.mul_le_mul (by rw [hn]; exact hl) (by rw [hn]; exact hl)
    omega)
  have HYes := Lib.hid (fun t q => right_yes (l := l) (ns := ns) (c := cl) (t := t) (q := q))
  have HNo := Lib.hid (right_no (l := l) (ns := ns) (c := cl))
  obtain ⟨LS, hLS⟩ : ∃ LS, lines l = LS := ⟨_, rfl⟩
  rw [hLS] at HLo HLw HLl HYes HNo
  obtain ⟨m, hm⟩ : ∃ m, LS.length = m := ⟨_, rfl⟩
  have HM := Lib.hid hm
  rw [hm] at HLl
  have hm6 := HLl.out
  obtain ⟨rb, hrb⟩ : ∃ rb, rightB l ns cl = rb := ⟨_, rfl⟩
  rw [hrb] at HYes HNo ⊢
  clear hr hw hLS hm hrb hn hok hd HLl
  have K3 : Hid (CBox ((w.alloc (Gv.obj ⟨27, s, nx, .slice p n c, .slice ps ns cs, .slice pw nw cw⟩)).alloc (Cv.obj ⟨45, cl⟩)) (w.heap.size + 1) ⟨45, cl⟩) := Lib.hid (CBox.newAt (by simp) rfl)
  go_enter Try.func105, Try.ntmps105
  go_upto_region 1 with fail
  obtain ⟨w0, ew, b⟩ : ∃ wOPN : World, wOPN = ((w.alloc (Gv.obj ⟨27, s, nx, .slice p n c, .slice ps ns cs, .slice pw nw cw⟩)).alloc (Cv.obj ⟨45, cl⟩)) ∧ Below (((w.alloc (Gv.obj ⟨27, s, nx, .slice p n c, .slice ps ns cs, .slice pw nw cw⟩)).alloc (Cv.obj ⟨45, cl⟩))).heap.size (((w.alloc (Gv.obj ⟨27, s, nx, .slice p n c, .slice ps ns cs, .slice pw nw cw⟩)).alloc (Cv.obj ⟨45, cl⟩))) wOPN := ⟨_, rfl, Below.refl _ _⟩
  rw [← ew]
  clear ew
  have Sw0 := Lib.hid b.size
  have HB := Lib.hid (chain0 (w := w) (by repeat (first | with_reducible exact Below.refl _ _ | with_reducible exact HB.out | with_reducible apply Below.drew | with_reducible apply bdN | with_reducible refine Below.alloc ?_ (by first | exact Nat.le_refl _ | with_reducible exact HB.out.size | omega | (simp; done) | (simp; omega) | (have := HB.out.size; simp at *; omega)) _ | with_reducible refine Below.setCell ?_ (by first | exact Nat.le_refl _ | with_reducible exact HB.out.size | omega | (simp; done) | (simp; omega) | (have := HB.out.size; simp at *; omega)) _)) b)
  have HR := Lib.hid (Rd.below (by repeat (first | with_reducible exact HR.out | with_reducible apply Rd.drewN | with_reducible apply Rd.drew | with_reducible apply Rd.alloc)) b)
  have K2 : Hid (GBox _ (w.heap.size) (⟨27, s, nx, .slice p n c, .slice ps ns cs, .slice pw nw cw⟩)) := Lib.hid (GBox.below (by repeat (first | with_reducible exact K2.out | with_reducible apply GBox.drewN | with_reducible apply GBox.drew | (with_reducible refine GBox.newAt ?_ ?_ <;> first | (simp; done) | rfl) | with_reducible apply GBox.alloc)) b)
  have K3 : Hid (CBox _ (w.heap.size + 1) (⟨45, cl⟩)) := Lib.hid (CBox.below (by repeat (first | with_reducible exact K3.out | with_reducible apply CBox.drewN | with_reducible apply CBox.drew | (with_reducible refine CBox.newAt ?_ ?_ <;> first | (simp; done) | rfl) | with_reducible apply CBox.alloc)) b)
  try clear k2a k2b k2c k2d k2e k2z
  have k2z := K2.out.lt
  obtain ⟨k2a, k2b, k2c, k2d, k2e⟩ := K2.out.cell
  try clear k3a k3b k3c k3d k3z
  have k3z := K3.out.lt
  obtain ⟨k3a, k3b, k3c, k3d⟩ := K3.out.cell
  clear b
  go_wp2_with fail
  refine (HLo.out _ HR.out).mono ?_
  rintro e w1 ⟨u, rfl, hu, b⟩
  obtain ⟨pu, cu, rfl, _, ru, _⟩ := hu.form
  rw [HM.out]
  have Sw1 := Lib.hid b.size
  have HB := Lib.hid (chain0 (w := w) (by repeat (first | with_reducible exact Below.refl _ _ | with_reducible exact HB.out | with_reducible apply Below.drew | with_reducible apply bdN | with_reducible refine Below.alloc ?_ (by first | exact Nat.le_refl _ | with_reducible exact HB.out.size | omega | (simp; done) | (simp; omega) | (have := HB.out.size; simp at *; omega)) _ | with_reducible refine Below.setCell ?_ (by first | exact Nat.le_refl _ | with_reducible exact HB.out.size | omega | (simp; done) | (simp; omega) | (have := HB.out.size; simp at *; omega)) _)) b)
  have HR := Lib.hid (Rd.below (by repeat (first | with_reducible exact HR.out | with_reducible apply Rd.drewN | with_reducible apply Rd.drew | with_reducible apply Rd.alloc)) b)
  have K2 : Hid (GBox _ (w.heap.size) (⟨27, s, nx, .slice p n c, .slice ps ns cs, .slice pw nw cw⟩)) := Lib.hid (GBox.below (by repeat (first | with_reducible exact K2.out | with_reducible apply GBox.drewN | with_reducible apply GBox.drew | (with_reducible refine GBox.newAt ?_ ?_ <;> first | (simp; done) | rfl) | with_reducible apply GBox.alloc)) b)
  have K3 : Hid (CBox _ (w.heap.size + 1) (⟨45, cl⟩)) := Lib.hid (CBox.below (by repeat (first | with_reducible exact K3.out | with_reducible apply CBox.drewN | with_reducible apply CBox.drew | (with_reducible refine CBox.newAt ?_ ?_ <;> first | (simp; done) | rfl) | with_reducible apply CBox.alloc)) b)
  try clear k2a k2b k2c k2d k2e k2z
  have k2z := K2.out.lt
  obtain ⟨k2a, k2b, k2c, k2d, k2e⟩ := K2.out.cell
  try clear k3a k3b k3c k3d k3z
  have k3z := K3.out.lt
  obtain ⟨k3a, k3b, k3c, k3d⟩ := K3.out.cell
  clear b
  have HV := Lib.hid ru
  clear hu ru
  go_wp2_with fail
  go_loopw [6, 7, 13, 20] (fun _ _ i _ wr => ∃ k : Nat, k ≤ m ∧ i = .int .i64 k ∧ Hid (∀ (j : Nat) t, j < k → LS[j]? = some t → ∀ q : Nat, q < ns → same cl (mkC q t) = false) ∧ Hid (Below w.heap.size w wr) ∧ Hid (Rd wr pu (A3.flat LS)) ∧ Hid (GBox wr w.heap.size ⟨27, s, nx, .slice p n c, .slice ps ns cs, .slice pw nw cw⟩) ∧ Hid (CBox wr (w.heap.size + 1) ⟨45, cl⟩)) (fun _ _ i _ _ => m - (intOf i).toNat)
  case atStart => exact ⟨0, Nat.zero_le _, rfl, Lib.hid (fun j t h => by omega), HB, HV, K2, K3⟩
  case round =>
    clear HB HV K2 K3 k2a k2b k2c k2d k2e k2z k3a k3b k3c k3d k3z
    obtain ⟨k, hk, rfl, HU, HB, HV, K2, K3⟩ := hrel
    obtain ⟨k2a, k2b, k2c, k2d, k2e⟩ := K2.out.cell
    have k2z := K2.out.lt
    have m0 : (0 : Int) ≤ (k : Int) := by omega
    by_cases hlt : k < m
    · have m1 : (k : Int) < (m : Int) := by omega
      obtain ⟨b1, o1, t, rfl, hb1, ht, c0, c1, c2⟩ := HV.out.aA3 (k := k) (by rw [HM.out]; exact hlt)
      have HT := Lib.hid ht
      have HTw := Lib.hid (HLw.out t (List.mem_of_getElem? ht))
      have HTm := Lib.hid (List.mem_of_getElem? ht)
      clear ht
      go_upto_region 4 with fail
      have K6 : Hid (TBox (wr.alloc t.obj) wr.heap.size t) := Lib.hid (TBox.newAt rfl rfl)
      have K2' := Lib.hid (K2.out.alloc t.obj)
      have K3' := Lib.hid (K3.out.alloc t.obj)
      have HB' := Lib.hid (HB.out.alloc HB.out.size t.obj)
      have HV' := Lib.hid (Rd.alloc HV.out t.obj)
      obtain ⟨g6, hg6⟩ : ∃ g6, wr.heap.size = g6 := ⟨_, rfl⟩
      rw [hg6] at K6
      try rw [hg6]
      clear hg6 c0 c1 c2 k2a k2b k2c k2d k2e k2z K2 K3 HB HV hb1
      generalize wr.alloc t.obj = W at K6 K2' K3' HB' HV' ⊢
      obtain ⟨k2a, k2b, k2c, k2d, k2e⟩ := K2'.out.cell
      have k2z := K2'.out.lt
      go_wp2_with fail
      go_loopw [7, 20] (fun _ i wr => ∃ q : Nat, q ≤ ns ∧ i = .int .i64 q ∧ Hid (∀ j : Nat, j < q → same cl (mkC j t) = false) ∧ Hid (Below w.heap.size w wr) ∧ Hid (Rd wr (some ⟨b1, o1, none⟩) (A3.flat LS)) ∧ Hid (GBox wr w.heap.size ⟨27, s, nx, .slice p n c, .slice ps ns cs, .slice pw nw cw⟩) ∧ Hid (CBox wr (w.heap.size + 1) ⟨45, cl⟩) ∧ Hid (TBox wr g6 t)) (fun _ i _ => ns - (intOf i).toNat)
      case atStart => exact ⟨0, Nat.zero_le _, rfl, Lib.hid (fun j h => by omega), HB', HV', K2', K3', K6⟩
      case round =>
        clear HB' HV' K2' K3' K6 k2a k2b k2c k2d k2e k2z
        obtain ⟨q, hq, rfl, HI, HB, HV, K2, K3, K6⟩ := hrel
        obtain ⟨k3a, k3b, k3c, k3d⟩ := K3.out.cell
        obtain ⟨k6a, k6b, k6c, k6d⟩ := K6.out.cell
        have q0 : (0 : Int) ≤ (q : Int) := by omega
        by_cases hqt : q < ns
        · have q1 : (q : Int) < (ns : Int) := by omega
          have he : ∀ w, (Op.equalIn 10000 45 cl.val (.agg #[.int .i64 (q : Int), .int .i64 t.a, .int .i64 t.b, .int .i64 t.c])).run Try.prog w = .ok (same cl (mkC q t)) w := eqC_run cl (mkC q t) HW.out ⟨wf_small (by omega) (by show (q : Int) ≤ 1000; omega), HTw.out.1, HTw.out.2.1, HTw.out.2.2⟩
          have HY := Lib.hid (fun h => HYes.out t q hqt HTm.out h)
          cases hs : same cl (mkC q t)
          · have HI2 : Hid (∀ j : Nat, j < q + 1 → same cl (mkC j t) = false) := Lib.hid (fun j hj => by
              rcases Nat.lt_or_ge j q with h | h
              · exact HI.out j h
              · obtain rfl : j = q := by omega
                exact hs)
            rw [hs] at he
            clear hs
            go_wp2_with fail
            go_roundw
            case rel => exact ⟨q + 1, by omega, by go_num, HI2, HB, HV, K2, K3, K6⟩
            case measure => simp [intOf]; omega
          · have HT2 := Lib.hid (HY.out hs)
            rw [hs] at he
            clear hs
            go_wp2_with fail
            go_ret
            exact ⟨ret_bool HT2.out.symm, HB.out⟩
        · obtain rfl : ns = q := by omega
          have HU2 : Hid (∀ (j : Nat) t, j < k + 1 → LS[j]? = some t → ∀ q' : Nat, q' < ns → same cl (mkC q' t) = false) := Lib.hid (fun j t' hj ht q' hq' => by
            rcases Nat.lt_or_ge j k with h | h
            · exact HU.out j t' h ht q' hq'
            · obtain rfl : j = k := by omega
              have e := HT.out
              rw [ht] at e
              injection e with e
              subst e
              exact HI.out q' hq')
          go_wp2_with fail
          go_roundw
          case rel => exact ⟨k + 1, by omega, by go_num, HU2, HB, HV, K2, K3⟩
          case measure => simp [intOf]; omega
    · obtain rfl : k = m := by omega
      have HN2 := Lib.hid (HNo.out (fun j t ht q hq => HU.out j t (by have := (List.getElem?_eq_some_iff.1 ht).1; rw [HM.out] at this; exact this) ht q hq))
      go_wp2_with fail
      go_ret
      exact ⟨ret_bool HN2.out.symm, HB.out⟩
end Go.Proofs.Yteccbcbijfcpmaa.game

/- The kind of a claim: the program's and the model's. -/
namespace Go.Proofs.Yteccbcbijfcpmaa.game
open Go.RowKit
open cards deal
set_option linter.unusedVariables false

theorem kind_r {l : List Cd} {ns : Nat} {c : Cd} (h : rightB l ns c = true) : kind l ns c = 1 := by unfold kind; rw [if_pos h]
theorem kind_w {l : List Cd} {ns : Nat} {c : Cd} (h : rightB l ns c = false) (h1 : isP ns c.a = true) (h2 : onT l.length (plc c) = true) : kind l ns c = 2 := by unfold kind; rw [if_neg (by simp [h]), if_pos (by simp [h1, h2])]
theorem kind_i {l : List Cd} {ns : Nat} {c : Cd} (h : rightB l ns c = false) (h1 : (isP ns c.a && onT l.length (plc c)) = false) : kind l ns c = 3 := by unfold kind; rw [if_neg (by simp [h]), if_neg (by simp [h1])]

set_option maxRecDepth 100000 in
set_option maxHeartbeats 4000000 in
theorem kind_of (s nx : Int) (l : List Cd) (cl : Cd) (p ps pw : Option Addr) (n c ns cs nw cw : Nat) (w : World) (hn : l.length = n) (hl : n ≤ 81) (hns : ns ≤ 1000) (hr : Rd w p (flat l)) (hok : l.all Cd.ok = true) (hd : l.Nodup) (hw : wfc cl) :
    Calls Try.prog 70 #[gval s nx (.slice p n c) (.slice ps ns cs) (.slice pw nw cw), cl.val] w fun e w' => e = .returned (.int .i64 (kind l ns cl)) ∧ Below w.heap.size w w' := by
  have HR := Lib.hid hr
  have HRi := Lib.hid (fun w h => is_right s nx l cl p ps pw n c ns cs nw cw w hn hl hns h hok hd hw)
  have HPl := Lib.hid (fun w => is_player s nx cl.a p ps pw n c ns cs nw cw w)
  have HOt := Lib.hid (fun w => on_table (plc cl) p n c w)
  have HN := Lib.hid hn
  obtain ⟨b1, hb1⟩ : ∃ b1, rightB l ns cl = b1 := ⟨_, rfl⟩
  obtain ⟨b2, hb2⟩ : ∃ b2, isP ns cl.a = b2 := ⟨_, rfl⟩
  obtain ⟨b3, hb3⟩ : ∃ b3, onT n (plc cl) = b3 := ⟨_, rfl⟩
  rw [hb1] at HRi
  rw [hb2] at HPl
  rw [hb3] at HOt
  have H1 := Lib.hid hb1
  have H2 := Lib.hid hb2
  have H3 := Lib.hid hb3
  have K3 : Hid (CBox ((w.alloc (Gv.obj ⟨27, s, nx, .slice p n c, .slice ps ns cs, .slice pw nw cw⟩)).alloc (Cv.obj ⟨45, cl⟩)) (w.heap.size + 1) ⟨45, cl⟩) := Lib.hid (CBox.newAt (by simp) rfl)
  clear hr hn hok hd hw hb1 hb2 hb3
  cases b1
  · cases b2
    · have HT := Lib.hid (kind_i H1.out (by rw [H2.out]; rfl))
      rw [HT.out]
      go_enter Try.func70, Try.ntmps70
      go_upto_region 2 with fail
      obtain ⟨w0, ew, b⟩ : ∃ wOPN : World, wOPN = ((w.alloc (Gv.obj ⟨27, s, nx, .slice p n c, .slice ps ns cs, .slice pw nw cw⟩)).alloc (Cv.obj ⟨45, cl⟩)) ∧ Below (((w.alloc (Gv.obj ⟨27, s, nx, .slice p n c, .slice ps ns cs, .slice pw nw cw⟩)).alloc (Cv.obj ⟨45, cl⟩))).heap.size (((w.alloc (Gv.obj ⟨27, s, nx, .slice p n c, .slice ps ns cs, .slice pw nw cw⟩)).alloc (Cv.obj ⟨45, cl⟩))) wOPN := ⟨_, rfl, Below.refl _ _⟩
      rw [← ew]
      clear ew
      have Sw0 := Lib.hid b.size
      have HB := Lib.hid (chain0 (w := w) (by repeat (first | with_reducible exact Below.refl _ _ | with_reducible exact HB.out | with_reducible apply Below.drew | with_reducible apply bdN | with_reducible refine Below.alloc ?_ (by first | exact Nat.le_refl _ | with_reducible exact HB.out.size | omega | (simp; done) | (simp; omega) | (have := HB.out.size; simp at *; omega)) _ | with_reducible refine Below.setCell ?_ (by first | exact Nat.le_refl _ | with_reducible exact HB.out.size | omega | (simp; done) | (simp; omega) | (have := HB.out.size; simp at *; omega)) _)) b)
      have HR := Lib.hid (Rd.below (by repeat (first | with_reducible exact HR.out | with_reducible apply Rd.drewN | with_reducible apply Rd.drew | with_reducible apply Rd.alloc)) b)
      have K2 : Hid (GBox _ (w.heap.size) (⟨27, s, nx, .slice p n c, .slice ps ns cs, .slice pw nw cw⟩)) := Lib.hid (GBox.below (by repeat (first | with_reducible exact K2.out | with_reducible apply GBox.drewN | with_reducible apply GBox.drew | (with_reducible refine GBox.newAt ?_ ?_ <;> first | (simp; done) | rfl) | with_reducible apply GBox.alloc)) b)
      have K3 : Hid (CBox _ (w.heap.size + 1) (⟨45, cl⟩)) := Lib.hid (CBox.below (by repeat (first | with_reducible exact K3.out | with_reducible apply CBox.drewN | with_reducible apply CBox.drew | (with_reducible refine CBox.newAt ?_ ?_ <;> first | (simp; done) | rfl) | with_reducible apply CBox.alloc)) b)
      try clear k2a k2b k2c k2d k2e k2z
      have k2z := K2.out.lt
      obtain ⟨k2a, k2b, k2c, k2d, k2e⟩ := K2.out.cell
      try clear k3a k3b k3c k3d k3z
      have k3z := K3.out.lt
      obtain ⟨k3a, k3b, k3c, k3d⟩ := K3.out.cell
      clear b
      go_wp2_with fail
      refine ((HRi.out _ HR.out)).mono ?_
      rintro e w1 ⟨rfl, b⟩
      have Sw1 := Lib.hid b.size
      have HB := Lib.hid (chain0 (w := w) (by repeat (first | with_reducible exact Below.refl _ _ | with_reducible exact HB.out | with_reducible apply Below.drew | with_reducible apply bdN | with_reducible refine Below.alloc ?_ (by first | exact Nat.le_refl _ | with_reducible exact HB.out.size | omega | (simp; done) | (simp; omega) | (have := HB.out.size; simp at *; omega)) _ | with_reducible refine Below.setCell ?_ (by first | exact Nat.le_refl _ | with_reducible exact HB.out.size | omega | (simp; done) | (simp; omega) | (have := HB.out.size; simp at *; omega)) _)) b)
      have HR := Lib.hid (Rd.below (by repeat (first | with_reducible exact HR.out | with_reducible apply Rd.drewN | with_reducible apply Rd.drew | with_reducible apply Rd.alloc)) b)
      have K2 : Hid (GBox _ (w.heap.size) (⟨27, s, nx, .slice p n c, .slice ps ns cs, .slice pw nw cw⟩)) := Lib.hid (GBox.below (by repeat (first | with_reducible exact K2.out | with_reducible apply GBox.drewN | with_reducible apply GBox.drew | (with_reducible refine GBox.newAt ?_ ?_ <;> first | (simp; done) | rfl) | with_reducible apply GBox.alloc)) b)
      have K3 : Hid (CBox _ (w.heap.size + 1) (⟨45, cl⟩)) := Lib.hid (CBox.below (by repeat (first | with_reducible exact K3.out | with_reducible apply CBox.drewN | with_reducible apply CBox.drew | (with_reducible refine CBox.newAt ?_ ?_ <;> first | (simp; done) | rfl) | with_reducible apply CBox.alloc)) b)
      try clear k2a k2b k2c k2d k2e k2z
      have k2z := K2.out.lt
      obtain ⟨k2a, k2b, k2c, k2d, k2e⟩ := K2.out.cell
      try clear k3a k3b k3c k3d k3z
      have k3z := K3.out.lt
      obtain ⟨k3a, k3b, k3c, k3d⟩ := K3.out.cell
      clear b
      go_wp2_with fail
      refine ((HPl.out _)).mono ?_
      rintro e w2 ⟨rfl, b⟩
      have Sw2 := Lib.hid b.size
      have HB := Lib.hid (chain0 (w := w) (by repeat (first | with_reducible exact Below.refl _ _ | with_reducible exact HB.out | with_reducible apply Below.drew | with_reducible apply bdN | with_reducible refine Below.alloc ?_ (by first | exact Nat.le_refl _ | with_reducible exact HB.out.size | omega | (simp; done) | (simp; omega) | (have := HB.out.size; simp at *; omega)) _ | with_reducible refine Below.setCell ?_ (by first | exact Nat.le_refl _ | with_reducible exact HB.out.size | omega | (simp; done) | (simp; omega) | (have := HB.out.size; simp at *; omega)) _)) b)
      have HR := Lib.hid (Rd.below (by repeat (first | with_reducible exact HR.out | with_reducible apply Rd.drewN | with_reducible apply Rd.drew | with_reducible apply Rd.alloc)) b)
      have K2 : Hid (GBox _ (w.heap.size) (⟨27, s, nx, .slice p n c, .slice ps ns cs, .slice pw nw cw⟩)) := Lib.hid (GBox.below (by repeat (first | with_reducible exact K2.out | with_reducible apply GBox.drewN | with_reducible apply GBox.drew | (with_reducible refine GBox.newAt ?_ ?_ <;> first | (simp; done) | rfl) | with_reducible apply GBox.alloc)) b)
      have K3 : Hid (CBox _ (w.heap.size + 1) (⟨45, cl⟩)) := Lib.hid (CBox.below (by repeat (first | with_reducible exact K3.out | with_reducible apply CBox.drewN | with_reducible apply CBox.drew | (with_reducible refine CBox.newAt ?_ ?_ <;> first | (simp; done) | rfl) | with_reducible apply CBox.alloc)) b)
      try clear k2a k2b k2c k2d k2e k2z
      have k2z := K2.out.lt
      obtain ⟨k2a, k2b, k2c, k2d, k2e⟩ := K2.out.cell
      try clear k3a k3b k3c k3d k3z
      have k3z := K3.out.lt
      obtain ⟨k3a, k3b, k3c, k3d⟩ := K3.out.cell
      clear b
      go_wp2_with fail
      go_ret
      exact ⟨rfl, by repeat (first | with_reducible exact Below.refl _ _ | with_reducible exact HB.out | with_reducible apply Below.drew | with_reducible apply bdN | with_reducible refine Below.alloc ?_ (by first | exact Nat.le_refl _ | with_reducible exact HB.out.size | omega | (simp; done) | (simp; omega) | (have := HB.out.size; simp at *; omega)) _ | with_reducible refine Below.setCell ?_ (by first | exact Nat.le_refl _ | with_reducible exact HB.out.size | omega | (simp; done) | (simp; omega) | (have := HB.out.size; simp at *; omega)) _)⟩
    · cases b3
      · have HT := Lib.hid (kind_i H1.out (by rw [H2.out, HN.out, H3.out]; rfl))
        rw [HT.out]
        go_enter Try.func70, Try.ntmps70
        go_upto_region 2 with fail
        obtain ⟨w0, ew, b⟩ : ∃ wOPN : World, wOPN = ((w.alloc (Gv.obj ⟨27, s, nx, .slice p n c, .slice ps ns cs, .slice pw nw cw⟩)).alloc (Cv.obj ⟨45, cl⟩)) ∧ Below (((w.alloc (Gv.obj ⟨27, s, nx, .slice p n c, .slice ps ns cs, .slice pw nw cw⟩)).alloc (Cv.obj ⟨45, cl⟩))).heap.size (((w.alloc (Gv.obj ⟨27, s, nx, .slice p n c, .slice ps ns cs, .slice pw nw cw⟩)).alloc (Cv.obj ⟨45, cl⟩))) wOPN := ⟨_, rfl, Below.refl _ _⟩
        rw [← ew]
        clear ew
        have Sw0 := Lib.hid b.size
        have HB := Lib.hid (chain0 (w := w) (by repeat (first | with_reducible exact Below.refl _ _ | with_reducible exact HB.out | with_reducible apply Below.drew | with_reducible apply bdN | with_reducible refine Below.alloc ?_ (by first | exact Nat.le_refl _ | with_reducible exact HB.out.size | omega | (simp; done) | (simp; omega) | (have := HB.out.size; simp at *; omega)) _ | with_reducible refine Below.setCell ?_ (by first | exact Nat.le_refl _ | with_reducible exact HB.out.size | omega | (simp; done) | (simp; omega) | (have := HB.out.size; simp at *; omega)) _)) b)
        have HR := Lib.hid (Rd.below (by repeat (first | with_reducible exact HR.out | with_reducible apply Rd.drewN | with_reducible apply Rd.drew | with_reducible apply Rd.alloc)) b)
        have K2 : Hid (GBox _ (w.heap.size) (⟨27, s, nx, .slice p n c, .slice ps ns cs, .slice pw nw cw⟩)) := Lib.hid (GBox.below (by repeat (first | with_reducible exact K2.out | with_reducible apply GBox.drewN | with_reducible apply GBox.drew | (with_reducible refine GBox.newAt ?_ ?_ <;> first | (simp; done) | rfl) | with_reducible apply GBox.alloc)) b)
        have K3 : Hid (CBox _ (w.heap.size + 1) (⟨45, cl⟩)) := Lib.hid (CBox.below (by repeat (first | with_reducible exact K3.out | with_reducible apply CBox.drewN | with_reducible apply CBox.drew | (with_reducible refine CBox.newAt ?_ ?_ <;> first | (simp; done) | rfl) | with_reducible apply CBox.alloc)) b)
        try clear k2a k2b k2c k2d k2e k2z
        have k2z := K2.out.lt
        obtain ⟨k2a, k2b, k2c, k2d, k2e⟩ := K2.out.cell
        try clear k3a k3b k3c k3d k3z
        have k3z := K3.out.lt
        obtain ⟨k3a, k3b, k3c, k3d⟩ := K3.out.cell
        clear b
        go_wp2_with fail
        refine ((HRi.out _ HR.out)).mono ?_
        rintro e w1 ⟨rfl, b⟩
        have Sw1 := Lib.hid b.size
        have HB := Lib.hid (chain0 (w := w) (by repeat (first | with_reducible exact Below.refl _ _ | with_reducible exact HB.out | with_reducible apply Below.drew | with_reducible apply bdN | with_reducible refine Below.alloc ?_ (by first | exact Nat.le_refl _ | with_reducible exact HB.out.size | omega | (simp; done) | (simp; omega) | (have := HB.out.size; simp at *; omega)) _ | with_reducible refine Below.setCell ?_ (by first | exact Nat.le_refl _ | with_reducible exact HB.out.size | omega | (simp; done) | (simp; omega) | (have := HB.out.size; simp at *; omega)) _)) b)
        have HR := Lib.hid (Rd.below (by repeat (first | with_reducible exact HR.out | with_reducible apply Rd.drewN | with_reducible apply Rd.drew | with_reducible apply Rd.alloc)) b)
        have K2 : Hid (GBox _ (w.heap.size) (⟨27, s, nx, .slice p n c, .slice ps ns cs, .slice pw nw cw⟩)) := Lib.hid (GBox.below (by repeat (first | with_reducible exact K2.out | with_reducible apply GBox.drewN | with_reducible apply GBox.drew | (with_reducible refine GBox.newAt ?_ ?_ <;> first | (simp; done) | rfl) | with_reducible apply GBox.alloc)) b)
        have K3 : Hid (CBox _ (w.heap.size + 1) (⟨45, cl⟩)) := Lib.hid (CBox.below (by repeat (first | with_reducible exact K3.out | with_reducible apply CBox.drewN | with_reducible apply CBox.drew | (with_reducible refine CBox.newAt ?_ ?_ <;> first | (simp; done) | rfl) | with_reducible apply CBox.alloc)) b)
        try clear k2a k2b k2c k2d k2e k2z
        have k2z := K2.out.lt
        obtain ⟨k2a, k2b, k2c, k2d, k2e⟩ := K2.out.cell
        try clear k3a k3b k3c k3d k3z
        have k3z := K3.out.lt
        obtain ⟨k3a, k3b, k3c, k3d⟩ := K3.out.cell
        clear b
        go_wp2_with fail
        refine ((HPl.out _)).mono ?_
        rintro e w2 ⟨rfl, b⟩
        have Sw2 := Lib.hid b.size
        have HB := Lib.hid (chain0 (w := w) (by repeat (first | with_reducible exact Below.refl _ _ | with_reducible exact HB.out | with_reducible apply Below.drew | with_reducible apply bdN | with_reducible refine Below.alloc ?_ (by first | exact Nat.le_refl _ | with_reducible exact HB.out.size | omega | (simp; done) | (simp; omega) | (have := HB.out.size; simp at *; omega)) _ | with_reducible refine Below.setCell ?_ (by first | exact Nat.le_refl _ | with_reducible exact HB.out.size | omega | (simp; done) | (simp; omega) | (have := HB.out.size; simp at *; omega)) _)) b)
        have HR := Lib.hid (Rd.below (by repeat (first | with_reducible exact HR.out | with_reducible apply Rd.drewN | with_reducible apply Rd.drew | with_reducible apply Rd.alloc)) b)
        have K2 : Hid (GBox _ (w.heap.size) (⟨27, s, nx, .slice p n c, .slice ps ns cs, .slice pw nw cw⟩)) := Lib.hid (GBox.below (by repeat (first | with_reducible exact K2.out | with_reducible apply GBox.drewN | with_reducible apply GBox.drew | (with_reducible refine GBox.newAt ?_ ?_ <;> first | (simp; done) | rfl) | with_reducible apply GBox.alloc)) b)
        have K3 : Hid (CBox _ (w.heap.size + 1) (⟨45, cl⟩)) := Lib.hid (CBox.below (by repeat (first | with_reducible exact K3.out | with_reducible apply CBox.drewN | with_reducible apply CBox.drew | (with_reducible refine CBox.newAt ?_ ?_ <;> first | (simp; done) | rfl) | with_reducible apply CBox.alloc)) b)
        try clear k2a k2b k2c k2d k2e k2z
        have k2z := K2.out.lt
        obtain ⟨k2a, k2b, k2c, k2d, k2e⟩ := K2.out.cell
        try clear k3a k3b k3c k3d k3z
        have k3z := K3.out.lt
        obtain ⟨k3a, k3b, k3c, k3d⟩ := K3.out.cell
        clear b
        go_wp2_with fail
        refine ((HOt.out _)).mono ?_
        rintro e w3 ⟨rfl, b⟩
        have Sw3 := Lib.hid b.size
        have HB := Lib.hid (chain0 (w := w) (by repeat (first | with_reducible exact Below.refl _ _ | with_reducible exact HB.out | with_reducible apply Below.drew | with_reducible apply bdN | with_reducible refine Below.alloc ?_ (by first | exact Nat.le_refl _ | with_reducible exact HB.out.size | omega | (simp; done) | (simp; omega) | (have := HB.out.size; simp at *; omega)) _ | with_reducible refine Below.setCell ?_ (by first | exact Nat.le_refl _ | with_reducible exact HB.out.size | omega | (simp; done) | (simp; omega) | (have := HB.out.size; simp at *; omega)) _)) b)
        have HR := Lib.hid (Rd.below (by repeat (first | with_reducible exact HR.out | with_reducible apply Rd.drewN | with_reducible apply Rd.drew | with_reducible apply Rd.alloc)) b)
        have K2 : Hid (GBox _ (w.heap.size) (⟨27, s, nx, .slice p n c, .slice ps ns cs, .slice pw nw cw⟩)) := Lib.hid (GBox.below (by repeat (first | with_reducible exact K2.out | with_reducible apply GBox.drewN | with_reducible apply GBox.drew | (with_reducible refine GBox.newAt ?_ ?_ <;> first | (simp; done) | rfl) | with_reducible apply GBox.alloc)) b)
        have K3 : Hid (CBox _ (w.heap.size + 1) (⟨45, cl⟩)) := Lib.hid (CBox.below (by repeat (first | with_reducible exact K3.out | with_reducible apply CBox.drewN | with_reducible apply CBox.drew | (with_reducible refine CBox.newAt ?_ ?_ <;> first | (simp; done) | rfl) | with_reducible apply CBox.alloc)) b)
        try clear k2a k2b k2c k2d k2e k2z
        have k2z := K2.out.lt
        obtain ⟨k2a, k2b, k2c, k2d, k2e⟩ := K2.out.cell
        try clear k3a k3b k3c k3d k3z
        have k3z := K3.out.lt
        obtain ⟨k3a, k3b, k3c, k3d⟩ := K3.out.cell
        clear b
        go_wp2_with fail
        go_ret
        exact ⟨rfl, by repeat (first | with_reducible exact Below.refl _ _ | with_reducible exact HB.out | with_reducible apply Below.drew | with_reducible apply bdN | with_reducible refine Below.alloc ?_ (by first | exact Nat.le_refl _ | with_reducible exact HB.out.size | omega | (simp; done) | (simp; omega) | (have := HB.out.size; simp at *; omega)) _ | with_reducible refine Below.setCell ?_ (by first | exact Nat.le_refl _ | with_reducible exact HB.out.size | omega | (simp; done) | (simp; omega) | (have := HB.out.size; simp at *; omega)) _)⟩
      · have HT := Lib.hid (kind_w H1.out H2.out (by rw [HN.out]; exact H3.out))
        rw [HT.out]
        go_enter Try.func70, Try.ntmps70
        go_upto_region 2 with fail
        obtain ⟨w0, ew, b⟩ : ∃ wOPN : World, wOPN = ((w.alloc (Gv.obj ⟨27, s, nx, .slice p n c, .slice ps ns cs, .slice pw nw cw⟩)).alloc (Cv.obj ⟨45, cl⟩)) ∧ Below (((w.alloc (Gv.obj ⟨27, s, nx, .slice p n c, .slice ps ns cs, .slice pw nw cw⟩)).alloc (Cv.obj ⟨45, cl⟩))).heap.size (((w.alloc (Gv.obj ⟨27, s, nx, .slice p n c, .slice ps ns cs, .slice pw nw cw⟩)).alloc (Cv.obj ⟨45, cl⟩))) wOPN := ⟨_, rfl, Below.refl _ _⟩
        rw [← ew]
        clear ew
        have Sw0 := Lib.hid b.size
        have HB := Lib.hid (chain0 (w := w) (by repeat (first | with_reducible exact Below.refl _ _ | with_reducible exact HB.out | with_reducible apply Below.drew | with_reducible apply bdN | with_reducible refine Below.alloc ?_ (by first | exact Nat.le_refl _ | with_reducible exact HB.out.size | omega | (simp; done) | (simp; omega) | (have := HB.out.size; simp at *; omega)) _ | with_reducible refine Below.setCell ?_ (by first | exact Nat.le_refl _ | with_reducible exact HB.out.size | omega | (simp; done) | (simp; omega) | (have := HB.out.size; simp at *; omega)) _)) b)
        have HR := Lib.hid (Rd.below (by repeat (first | with_reducible exact HR.out | with_reducible apply Rd.drewN | with_reducible apply Rd.drew | with_reducible apply Rd.alloc)) b)
        have K2 : Hid (GBox _ (w.heap.size) (⟨27, s, nx, .slice p n c, .slice ps ns cs, .slice pw nw cw⟩)) := Lib.hid (GBox.below (by repeat (first | with_reducible exact K2.out | with_reducible apply GBox.drewN | with_reducible apply GBox.drew | (with_reducible refine GBox.newAt ?_ ?_ <;> first | (simp; done) | rfl) | with_reducible apply GBox.alloc)) b)
        have K3 : Hid (CBox _ (w.heap.size + 1) (⟨45, cl⟩)) := Lib.hid (CBox.below (by repeat (first | with_reducible exact K3.out | with_reducible apply CBox.drewN | with_reducible apply CBox.drew | (with_reducible refine CBox.newAt ?_ ?_ <;> first | (simp; done) | rfl) | with_reducible apply CBox.alloc)) b)
        try clear k2a k2b k2c k2d k2e k2z
        have k2z := K2.out.lt
        obtain ⟨k2a, k2b, k2c, k2d, k2e⟩ := K2.out.cell
        try clear k3a k3b k3c k3d k3z
        have k3z := K3.out.lt
        obtain ⟨k3a, k3b, k3c, k3d⟩ := K3.out.cell
        clear b
        go_wp2_with fail
        refine ((HRi.out _ HR.out)).mono ?_
        rintro e w1 ⟨rfl, b⟩
        have Sw1 := Lib.hid b.size
        have HB := Lib.hid (chain0 (w := w) (by repeat (first | with_reducible exact Below.refl _ _ | with_reducible exact HB.out | with_reducible apply Below.drew | with_reducible apply bdN | with_reducible refine Below.alloc ?_ (by first | exact Nat.le_refl _ | with_reducible exact HB.out.size | omega | (simp; done) | (simp; omega) | (have := HB.out.size; simp at *; omega)) _ | with_reducible refine Below.setCell ?_ (by first | exact Nat.le_refl _ | with_reducible exact HB.out.size | omega | (simp; done) | (simp; omega) | (have := HB.out.size; simp at *; omega)) _)) b)
        have HR := Lib.hid (Rd.below (by repeat (first | with_reducible exact HR.out | with_reducible apply Rd.drewN | with_reducible apply Rd.drew | with_reducible apply Rd.alloc)) b)
        have K2 : Hid (GBox _ (w.heap.size) (⟨27, s, nx, .slice p n c, .slice ps ns cs, .slice pw nw cw⟩)) := Lib.hid (GBox.below (by repeat (first | with_reducible exact K2.out | with_reducible apply GBox.drewN | with_reducible apply GBox.drew | (with_reducible refine GBox.newAt ?_ ?_ <;> first | (simp; done) | rfl) | with_reducible apply GBox.alloc)) b)
        have K3 : Hid (CBox _ (w.heap.size + 1) (⟨45, cl⟩)) := Lib.hid (CBox.below (by repeat (first | with_reducible exact K3.out | with_reducible apply CBox.drewN | with_reducible apply CBox.drew | (with_reducible refine CBox.newAt ?_ ?_ <;> first | (simp; done) | rfl) | with_reducible apply CBox.alloc)) b)
        try clear k2a k2b k2c k2d k2e k2z
        have k2z := K2.out.lt
        obtain ⟨k2a, k2b, k2c, k2d, k2e⟩ := K2.out.cell
        try clear k3a k3b k3c k3d k3z
        have k3z := K3.out.lt
        obtain ⟨k3a, k3b, k3c, k3d⟩ := K3.out.cell
        clear b
        go_wp2_with fail
        refine ((HPl.out _)).mono ?_
        rintro e w2 ⟨rfl, b⟩
        have Sw2 := Lib.hid b.size
        have HB := Lib.hid (chain0 (w := w) (by repeat (first | with_reducible exact Below.refl _ _ | with_reducible exact HB.out | with_reducible apply Below.drew | with_reducible apply bdN | with_reducible refine Below.alloc ?_ (by first | exact Nat.le_refl _ | with_reducible exact HB.out.size | omega | (simp; done) | (simp; omega) | (have := HB.out.size; simp at *; omega)) _ | with_reducible refine Below.setCell ?_ (by first | exact Nat.le_refl _ | with_reducible exact HB.out.size | omega | (simp; done) | (simp; omega) | (have := HB.out.size; simp at *; omega)) _)) b)
        have HR := Lib.hid (Rd.below (by repeat (first | with_reducible exact HR.out | with_reducible apply Rd.drewN | with_reducible apply Rd.drew | with_reducible apply Rd.alloc)) b)
        have K2 : Hid (GBox _ (w.heap.size) (⟨27, s, nx, .slice p n c, .slice ps ns cs, .slice pw nw cw⟩)) := Lib.hid (GBox.below (by repeat (first | with_reducible exact K2.out | with_reducible apply GBox.drewN | with_reducible apply GBox.drew | (with_reducible refine GBox.newAt ?_ ?_ <;> first | (simp; done) | rfl) | with_reducible apply GBox.alloc)) b)
        have K3 : Hid (CBox _ (w.heap.size + 1) (⟨45, cl⟩)) := Lib.hid (CBox.below (by repeat (first | with_reducible exact K3.out | with_reducible apply CBox.drewN | with_reducible apply CBox.drew | (with_reducible refine CBox.newAt ?_ ?_ <;> first | (simp; done) | rfl) | with_reducible apply CBox.alloc)) b)
        try clear k2a k2b k2c k2d k2e k2z
        have k2z := K2.out.lt
        obtain ⟨k2a, k2b, k2c, k2d, k2e⟩ := K2.out.cell
        try clear k3a k3b k3c k3d k3z
        have k3z := K3.out.lt
        obtain ⟨k3a, k3b, k3c, k3d⟩ := K3.out.cell
        clear b
        go_wp2_with fail
        refine ((HOt.out _)).mono ?_
        rintro e w3 ⟨rfl, b⟩
        have Sw3 := Lib.hid b.size
        have HB := Lib.hid (chain0 (w := w) (by repeat (first | with_reducible exact Below.refl _ _ | with_reducible exact HB.out | with_reducible apply Below.drew | with_reducible apply bdN | with_reducible refine Below.alloc ?_ (by first | exact Nat.le_refl _ | with_reducible exact HB.out.size | omega | (simp; done) | (simp; omega) | (have := HB.out.size; simp at *; omega)) _ | with_reducible refine Below.setCell ?_ (by first | exact Nat.le_refl _ | with_reducible exact HB.out.size | omega | (simp; done) | (simp; omega) | (have := HB.out.size; simp at *; omega)) _)) b)
        have HR := Lib.hid (Rd.below (by repeat (first | with_reducible exact HR.out | with_reducible apply Rd.drewN | with_reducible apply Rd.drew | with_reducible apply Rd.alloc)) b)
        have K2 : Hid (GBox _ (w.heap.size) (⟨27, s, nx, .slice p n c, .slice ps ns cs, .slice pw nw cw⟩)) := Lib.hid (GBox.below (by repeat (first | with_reducible exact K2.out | with_reducible apply GBox.drewN | with_reducible apply GBox.drew | (with_reducible refine GBox.newAt ?_ ?_ <;> first | (simp; done) | rfl) | with_reducible apply GBox.alloc)) b)
        have K3 : Hid (CBox _ (w.heap.size + 1) (⟨45, cl⟩)) := Lib.hid (CBox.below (by repeat (first | with_reducible exact K3.out | with_reducible apply CBox.drewN | with_reducible apply CBox.drew | (with_reducible refine CBox.newAt ?_ ?_ <;> first | (simp; done) | rfl) | with_reducible apply CBox.alloc)) b)
        try clear k2a k2b k2c k2d k2e k2z
        have k2z := K2.out.lt
        obtain ⟨k2a, k2b, k2c, k2d, k2e⟩ := K2.out.cell
        try clear k3a k3b k3c k3d k3z
        have k3z := K3.out.lt
        obtain ⟨k3a, k3b, k3c, k3d⟩ := K3.out.cell
        clear b
        go_wp2_with fail
        go_ret
        exact ⟨rfl, by repeat (first | with_reducible exact Below.refl _ _ | with_reducible exact HB.out | with_reducible apply Below.drew | with_reducible apply bdN | with_reducible refine Below.alloc ?_ (by first | exact Nat.le_refl _ | with_reducible exact HB.out.size | omega | (simp; done) | (simp; omega) | (have := HB.out.size; simp at *; omega)) _ | with_reducible refine Below.setCell ?_ (by first | exact Nat.le_refl _ | with_reducible exact HB.out.size | omega | (simp; done) | (simp; omega) | (have := HB.out.size; simp at *; omega)) _)⟩
  · have HT := Lib.hid (kind_r H1.out)
    rw [HT.out]
    go_enter Try.func70, Try.ntmps70
    go_upto_region 2 with fail
    obtain ⟨w0, ew, b⟩ : ∃ wOPN : World, wOPN = ((w.alloc (Gv.obj ⟨27, s, nx, .slice p n c, .slice ps ns cs, .slice pw nw cw⟩)).alloc (Cv.obj ⟨45, cl⟩)) ∧ Below (((w.alloc (Gv.obj ⟨27, s, nx, .slice p n c, .slice ps ns cs, .slice pw nw cw⟩)).alloc (Cv.obj ⟨45, cl⟩))).heap.size (((w.alloc (Gv.obj ⟨27, s, nx, .slice p n c, .slice ps ns cs, .slice pw nw cw⟩)).alloc (Cv.obj ⟨45, cl⟩))) wOPN := ⟨_, rfl, Below.refl _ _⟩
    rw [← ew]
    clear ew
    have Sw0 := Lib.hid b.size
    have HB := Lib.hid (chain0 (w := w) (by repeat (first | with_reducible exact Below.refl _ _ | with_reducible exact HB.out | with_reducible apply Below.drew | with_reducible apply bdN | with_reducible refine Below.alloc ?_ (by first | exact Nat.le_refl _ | with_reducible exact HB.out.size | omega | (simp; done) | (simp; omega) | (have := HB.out.size; simp at *; omega)) _ | with_reducible refine Below.setCell ?_ (by first | exact Nat.le_refl _ | with_reducible exact HB.out.size | omega | (simp; done) | (simp; omega) | (have := HB.out.size; simp at *; omega)) _)) b)
    have HR := Lib.hid (Rd.below (by repeat (first | with_reducible exact HR.out | with_reducible apply Rd.drewN | with_reducible apply Rd.drew | with_reducible apply Rd.alloc)) b)
    have K2 : Hid (GBox _ (w.heap.size) (⟨27, s, nx, .slice p n c, .slice ps ns cs, .slice pw nw cw⟩)) := Lib.hid (GBox.below (by repeat (first | with_reducible exact K2.out | with_reducible apply GBox.drewN | with_reducible apply GBox.drew | (with_reducible refine GBox.newAt ?_ ?_ <;> first | (simp; done) | rfl) | with_reducible apply GBox.alloc)) b)
    have K3 : Hid (CBox _ (w.heap.size + 1) (⟨45, cl⟩)) := Lib.hid (CBox.below (by repeat (first | with_reducible exact K3.out | with_reducible apply CBox.drewN | with_reducible apply CBox.drew | (with_reducible refine CBox.newAt ?_ ?_ <;> first | (simp; done) | rfl) | with_reducible apply CBox.alloc)) b)
    try clear k2a k2b k2c k2d k2e k2z
    have k2z := K2.out.lt
    obtain ⟨k2a, k2b, k2c, k2d, k2e⟩ := K2.out.cell
    try clear k3a k3b k3c k3d k3z
    have k3z := K3.out.lt
    obtain ⟨k3a, k3b, k3c, k3d⟩ := K3.out.cell
    clear b
    go_wp2_with fail
    refine ((HRi.out _ HR.out)).mono ?_
    rintro e w1 ⟨rfl, b⟩
    have Sw1 := Lib.hid b.size
    have HB := Lib.hid (chain0 (w := w) (by repeat (first | with_reducible exact Below.refl _ _ | with_reducible exact HB.out | with_reducible apply Below.drew | with_reducible apply bdN | with_reducible refine Below.alloc ?_ (by first | exact Nat.le_refl _ | with_reducible exact HB.out.size | omega | (simp; done) | (simp; omega) | (have := HB.out.size; simp at *; omega)) _ | with_reducible refine Below.setCell ?_ (by first | exact Nat.le_refl _ | with_reducible exact HB.out.size | omega | (simp; done) | (simp; omega) | (have := HB.out.size; simp at *; omega)) _)) b)
    have HR := Lib.hid (Rd.below (by repeat (first | with_reducible exact HR.out | with_reducible apply Rd.drewN | with_reducible apply Rd.drew | with_reducible apply Rd.alloc)) b)
    have K2 : Hid (GBox _ (w.heap.size) (⟨27, s, nx, .slice p n c, .slice ps ns cs, .slice pw nw cw⟩)) := Lib.hid (GBox.below (by repeat (first | with_reducible exact K2.out | with_reducible apply GBox.drewN | with_reducible apply GBox.drew | (with_reducible refine GBox.newAt ?_ ?_ <;> first | (simp; done) | rfl) | with_reducible apply GBox.alloc)) b)
    have K3 : Hid (CBox _ (w.heap.size + 1) (⟨45, cl⟩)) := Lib.hid (CBox.below (by repeat (first | with_reducible exact K3.out | with_reducible apply CBox.drewN | with_reducible apply CBox.drew | (with_reducible refine CBox.newAt ?_ ?_ <;> first | (simp; done) | rfl) | with_reducible apply CBox.alloc)) b)
    try clear k2a k2b k2c k2d k2e k2z
    have k2z := K2.out.lt
    obtain ⟨k2a, k2b, k2c, k2d, k2e⟩ := K2.out.cell
    try clear k3a k3b k3c k3d k3z
    have k3z := K3.out.lt
    obtain ⟨k3a, k3b, k3c, k3d⟩ := K3.out.cell
    clear b
    go_wp2_with fail
    go_ret
    exact ⟨rfl, by repeat (first | with_reducible exact Below.refl _ _ | with_reducible exact HB.out | with_reducible apply Below.drew | with_reducible apply bdN | with_reducible refine Below.alloc ?_ (by first | exact Nat.le_refl _ | with_reducible exact HB.out.size | omega | (simp; done) | (simp; omega) | (have := HB.out.size; simp at *; omega)) _ | with_reducible refine Below.setCell ?_ (by first | exact Nat.le_refl _ | with_reducible exact HB.out.size | omega | (simp; done) | (simp; omega) | (have := HB.out.size; simp at *; omega)) _)⟩

/-! The model. -/
theorem right_p {l : List Cd} {ns : Nat} {c : Cd} (h : isP ns c.a = true) : rightB l ns c = has3 (lines l) (plc c) := by unfold rightB; rw [h]; rfl
theorem right_np {l : List Cd} {ns : Nat} {c : Cd} (h : isP ns c.a = false) : rightB l ns c = false := by unfold rightB; rw [h]; rfl

set_option maxRecDepth 100000 in
set_option maxHeartbeats 8000000 in
theorem l8_kind (s nx : Int) (l : List Cd) (cl : Cd) (p ps pw : Option Addr) (n c ns cs nw cw : Nat) (w : World) (hn : l.length = n) (hl : n ≤ 81) (hns : ns ≤ 1000) (hr : Rd w p (flat l)) (hok : l.all Cd.ok = true) (hd : l.Nodup) (hw : wfc cl) :
    Calls Try.prog 68 #[gval s nx (.slice p n c) (.slice ps ns cs) (.slice pw nw cw), cl.val] w fun e w' => e = .returned (.int .i64 (kind l ns cl)) ∧ Below w.heap.size w w' := by
  have HR := Lib.hid hr
  have HN := Lib.hid hn
  have HPl := Lib.hid (fun w => l1_in cl.a 0 ((ns : Int) - 1) w)
  have HPe : Hid (decide (0 ≤ cl.a ∧ cl.a ≤ (ns : Int) - 1) = isP ns cl.a) := Lib.hid (by unfold isP; rw [Bool.eq_iff_iff, decide_eq_true_eq, decide_eq_true_eq]; omega)
  rw [HPe.out] at HPl
  have hwr : IntKind.i64.wrap ((ns : Int) - 1) = (ns : Int) - 1 := IntWalk.i64_in _ (by omega)
  have hwn : IntKind.i64.wrap ((n : Int) - 1) = (n : Int) - 1 := IntWalk.i64_in _ (by omega)
  have HLi := Lib.hid (fun w h => l4_line s nx l (plc cl) p n c w hn hl h hok hd ⟨hw.2.1, hw.2.2.1, hw.2.2.2⟩)
  obtain ⟨b2, hb2⟩ : ∃ b2, isP ns cl.a = b2 := ⟨_, rfl⟩
  rw [hb2] at HPl
  have H2 := Lib.hid hb2
  obtain ⟨b1, hb1⟩ : ∃ b1, has3 (lines l) (plc cl) = b1 := ⟨_, rfl⟩
  rw [hb1] at HLi
  have H1 := Lib.hid hb1
  have K3 : Hid (CBox ((w.alloc (Gv.obj ⟨27, s, nx, .slice p n c, .slice ps ns cs, .slice pw nw cw⟩)).alloc (Cv.obj ⟨45, cl⟩)) (w.heap.size + 1) ⟨45, cl⟩) := Lib.hid (CBox.newAt (by simp) rfl)
  clear hr hn hok hd hw hb1 hb2
  cases b2
  · have HT := Lib.hid (kind_i (l := l) (right_np H2.out) (by rw [H2.out]; rfl))
    rw [HT.out]
    go_enter Try.func68, Try.ntmps68
    go_upto_region 1 with fail
    obtain ⟨w0, ew, b⟩ : ∃ wOPN : World, wOPN = ((w.alloc (Gv.obj ⟨27, s, nx, .slice p n c, .slice ps ns cs, .slice pw nw cw⟩)).alloc (Cv.obj ⟨45, cl⟩)) ∧ Below (((w.alloc (Gv.obj ⟨27, s, nx, .slice p n c, .slice ps ns cs, .slice pw nw cw⟩)).alloc (Cv.obj ⟨45, cl⟩))).heap.size (((w.alloc (Gv.obj ⟨27, s, nx, .slice p n c, .slice ps ns cs, .slice pw nw cw⟩)).alloc (Cv.obj ⟨45, cl⟩))) wOPN := ⟨_, rfl, Below.refl _ _⟩
    rw [← ew]
    clear ew
    have Sw0 := Lib.hid b.size
    have HB := Lib.hid (chain0 (w := w) (by repeat (first | with_reducible exact Below.refl _ _ | with_reducible exact HB.out | with_reducible apply Below.drew | with_reducible apply bdN | with_reducible refine Below.alloc ?_ (by first | exact Nat.le_refl _ | with_reducible exact HB.out.size | omega | (simp; done) | (simp; omega) | (have := HB.out.size; simp at *; omega)) _ | with_reducible refine Below.setCell ?_ (by first | exact Nat.le_refl _ | with_reducible exact HB.out.size | omega | (simp; done) | (simp; omega) | (have := HB.out.size; simp at *; omega)) _)) b)
    have HR := Lib.hid (Rd.below (by repeat (first | with_reducible exact HR.out | with_reducible apply Rd.drewN | with_reducible apply Rd.drew | with_reducible apply Rd.alloc)) b)
    have K2 : Hid (GBox _ (w.heap.size) (⟨27, s, nx, .slice p n c, .slice ps ns cs, .slice pw nw cw⟩)) := Lib.hid (GBox.below (by repeat (first | with_reducible exact K2.out | with_reducible apply GBox.drewN | with_reducible apply GBox.drew | (with_reducible refine GBox.newAt ?_ ?_ <;> first | (simp; done) | rfl) | with_reducible apply GBox.alloc)) b)
    have K3 : Hid (CBox _ (w.heap.size + 1) (⟨45, cl⟩)) := Lib.hid (CBox.below (by repeat (first | with_reducible exact K3.out | with_reducible apply CBox.drewN | with_reducible apply CBox.drew | (with_reducible refine CBox.newAt ?_ ?_ <;> first | (simp; done) | rfl) | with_reducible apply CBox.alloc)) b)
    try clear k2a k2b k2c k2d k2e k2z
    have k2z := K2.out.lt
    obtain ⟨k2a, k2b, k2c, k2d, k2e⟩ := K2.out.cell
    try clear k3a k3b k3c k3d k3z
    have k3z := K3.out.lt
    obtain ⟨k3a, k3b, k3c, k3d⟩ := K3.out.cell
    clear b
    go_wp2_with fail
    refine ((HPl.out _)).mono ?_
    rintro e w1 ⟨rfl, b⟩
    have Sw1 := Lib.hid b.size
    have HB := Lib.hid (chain0 (w := w) (by repeat (first | with_reducible exact Below.refl _ _ | with_reducible exact HB.out | with_reducible apply Below.drew | with_reducible apply bdN | with_reducible refine Below.alloc ?_ (by first | exact Nat.le_refl _ | with_reducible exact HB.out.size | omega | (simp; done) | (simp; omega) | (have := HB.out.size; simp at *; omega)) _ | with_reducible refine Below.setCell ?_ (by first | exact Nat.le_refl _ | with_reducible exact HB.out.size | omega | (simp; done) | (simp; omega) | (have := HB.out.size; simp at *; omega)) _)) b)
    have HR := Lib.hid (Rd.below (by repeat (first | with_reducible exact HR.out | with_reducible apply Rd.drewN | with_reducible apply Rd.drew | with_reducible apply Rd.alloc)) b)
    have K2 : Hid (GBox _ (w.heap.size) (⟨27, s, nx, .slice p n c, .slice ps ns cs, .slice pw nw cw⟩)) := Lib.hid (GBox.below (by repeat (first | with_reducible exact K2.out | with_reducible apply GBox.drewN | with_reducible apply GBox.drew | (with_reducible refine GBox.newAt ?_ ?_ <;> first | (simp; done) | rfl) | with_reducible apply GBox.alloc)) b)
    have K3 : Hid (CBox _ (w.heap.size + 1) (⟨45, cl⟩)) := Lib.hid (CBox.below (by repeat (first | with_reducible exact K3.out | with_reducible apply CBox.drewN | with_reducible apply CBox.drew | (with_reducible refine CBox.newAt ?_ ?_ <;> first | (simp; done) | rfl) | with_reducible apply CBox.alloc)) b)
    try clear k2a k2b k2c k2d k2e k2z
    have k2z := K2.out.lt
    obtain ⟨k2a, k2b, k2c, k2d, k2e⟩ := K2.out.cell
    try clear k3a k3b k3c k3d k3z
    have k3z := K3.out.lt
    obtain ⟨k3a, k3b, k3c, k3d⟩ := K3.out.cell
    clear b
    go_wp2_with fail
    go_ret
    exact ⟨rfl, by repeat (first | with_reducible exact Below.refl _ _ | with_reducible exact HB.out | with_reducible apply Below.drew | with_reducible apply bdN | with_reducible refine Below.alloc ?_ (by first | exact Nat.le_refl _ | with_reducible exact HB.out.size | omega | (simp; done) | (simp; omega) | (have := HB.out.size; simp at *; omega)) _ | with_reducible refine Below.setCell ?_ (by first | exact Nat.le_refl _ | with_reducible exact HB.out.size | omega | (simp; done) | (simp; omega) | (have := HB.out.size; simp at *; omega)) _)⟩
  · cases b1
    · have HRn := Lib.hid ((right_p (l := l) H2.out).trans H1.out)
      by_cases hi0 : 0 ≤ cl.b ∧ cl.b ≤ (n : Int) - 1
      · by_cases hi1 : 0 ≤ cl.c ∧ cl.c ≤ (n : Int) - 1
        · by_cases ho1 : cl.b < cl.c
          · by_cases hi2 : 0 ≤ cl.d ∧ cl.d ≤ (n : Int) - 1
            · by_cases ho2 : cl.c < cl.d
              · skip
                have HC0 := Lib.hid (show ∀ w, Calls Try.prog 54 #[.int .i64 cl.b, .int .i64 0, .int .i64 ((n : Int) - 1)] w fun e w' => e = .returned (.bool true) ∧ Below w.heap.size w w' from fun w => by have h := l1_in cl.b 0 ((n : Int) - 1) w; rwa [decide_eq_true hi0] at h)
                have HC1 := Lib.hid (show ∀ w, Calls Try.prog 54 #[.int .i64 cl.c, .int .i64 0, .int .i64 ((n : Int) - 1)] w fun e w' => e = .returned (.bool true) ∧ Below w.heap.size w w' from fun w => by have h := l1_in cl.c 0 ((n : Int) - 1) w; rwa [decide_eq_true hi1] at h)
                have HC2 := Lib.hid (show ∀ w, Calls Try.prog 54 #[.int .i64 cl.d, .int .i64 0, .int .i64 ((n : Int) - 1)] w fun e w' => e = .returned (.bool true) ∧ Below w.heap.size w w' from fun w => by have h := l1_in cl.d 0 ((n : Int) - 1) w; rwa [decide_eq_true hi2] at h)
                have HT := Lib.hid (kind_w (l := l) HRn.out H2.out (by unfold onT plc; rw [HN.out]; exact decide_eq_true (by simp only; omega)))
                rw [HT.out]
                go_enter Try.func68, Try.ntmps68
                go_upto_region 1 with fail
                obtain ⟨w0, ew, b⟩ : ∃ wOPN : World, wOPN = ((w.alloc (Gv.obj ⟨27, s, nx, .slice p n c, .slice ps ns cs, .slice pw nw cw⟩)).alloc (Cv.obj ⟨45, cl⟩)) ∧ Below (((w.alloc (Gv.obj ⟨27, s, nx, .slice p n c, .slice ps ns cs, .slice pw nw cw⟩)).alloc (Cv.obj ⟨45, cl⟩))).heap.size (((w.alloc (Gv.obj ⟨27, s, nx, .slice p n c, .slice ps ns cs, .slice pw nw cw⟩)).alloc (Cv.obj ⟨45, cl⟩))) wOPN := ⟨_, rfl, Below.refl _ _⟩
                rw [← ew]
                clear ew
                have Sw0 := Lib.hid b.size
                have HB := Lib.hid (chain0 (w := w) (by repeat (first | with_reducible exact Below.refl _ _ | with_reducible exact HB.out | with_reducible apply Below.drew | with_reducible apply bdN | with_reducible refine Below.alloc ?_ (by first | exact Nat.le_refl _ | with_reducible exact HB.out.size | omega | (simp; done) | (simp; omega) | (have := HB.out.size; simp at *; omega)) _ | with_reducible refine Below.setCell ?_ (by first | exact Nat.le_refl _ | with_reducible exact HB.out.size | omega | (simp; done) | (simp; omega) | (have := HB.out.size; simp at *; omega)) _)) b)
                have HR := Lib.hid (Rd.below (by repeat (first | with_reducible exact HR.out | with_reducible apply Rd.drewN | with_reducible apply Rd.drew | with_reducible apply Rd.alloc)) b)
                have K2 : Hid (GBox _ (w.heap.size) (⟨27, s, nx, .slice p n c, .slice ps ns cs, .slice pw nw cw⟩)) := Lib.hid (GBox.below (by repeat (first | with_reducible exact K2.out | with_reducible apply GBox.drewN | with_reducible apply GBox.drew | (with_reducible refine GBox.newAt ?_ ?_ <;> first | (simp; done) | rfl) | with_reducible apply GBox.alloc)) b)
                have K3 : Hid (CBox _ (w.heap.size + 1) (⟨45, cl⟩)) := Lib.hid (CBox.below (by repeat (first | with_reducible exact K3.out | with_reducible apply CBox.drewN | with_reducible apply CBox.drew | (with_reducible refine CBox.newAt ?_ ?_ <;> first | (simp; done) | rfl) | with_reducible apply CBox.alloc)) b)
                try clear k2a k2b k2c k2d k2e k2z
                have k2z := K2.out.lt
                obtain ⟨k2a, k2b, k2c, k2d, k2e⟩ := K2.out.cell
                try clear k3a k3b k3c k3d k3z
                have k3z := K3.out.lt
                obtain ⟨k3a, k3b, k3c, k3d⟩ := K3.out.cell
                clear b
                go_wp2_with fail
                refine ((HPl.out _)).mono ?_
                rintro e w1 ⟨rfl, b⟩
                have Sw1 := Lib.hid b.size
                have HB := Lib.hid (chain0 (w := w) (by repeat (first | with_reducible exact Below.refl _ _ | with_reducible exact HB.out | with_reducible apply Below.drew | with_reducible apply bdN | with_reducible refine Below.alloc ?_ (by first | exact Nat.le_refl _ | with_reducible exact HB.out.size | omega | (simp; done) | (simp; omega) | (have := HB.out.size; simp at *; omega)) _ | with_reducible refine Below.setCell ?_ (by first | exact Nat.le_refl _ | with_reducible exact HB.out.size | omega | (simp; done) | (simp; omega) | (have := HB.out.size; simp at *; omega)) _)) b)
                have HR := Lib.hid (Rd.below (by repeat (first | with_reducible exact HR.out | with_reducible apply Rd.drewN | with_reducible apply Rd.drew | with_reducible apply Rd.alloc)) b)
                have K2 : Hid (GBox _ (w.heap.size) (⟨27, s, nx, .slice p n c, .slice ps ns cs, .slice pw nw cw⟩)) := Lib.hid (GBox.below (by repeat (first | with_reducible exact K2.out | with_reducible apply GBox.drewN | with_reducible apply GBox.drew | (with_reducible refine GBox.newAt ?_ ?_ <;> first | (simp; done) | rfl) | with_reducible apply GBox.alloc)) b)
                have K3 : Hid (CBox _ (w.heap.size + 1) (⟨45, cl⟩)) := Lib.hid (CBox.below (by repeat (first | with_reducible exact K3.out | with_reducible apply CBox.drewN | with_reducible apply CBox.drew | (with_reducible refine CBox.newAt ?_ ?_ <;> first | (simp; done) | rfl) | with_reducible apply CBox.alloc)) b)
                try clear k2a k2b k2c k2d k2e k2z
                have k2z := K2.out.lt
                obtain ⟨k2a, k2b, k2c, k2d, k2e⟩ := K2.out.cell
                try clear k3a k3b k3c k3d k3z
                have k3z := K3.out.lt
                obtain ⟨k3a, k3b, k3c, k3d⟩ := K3.out.cell
                clear b
                go_wp2_with fail
                refine ((HLi.out _ HR.out)).mono ?_
                rintro e w2 ⟨rfl, b⟩
                have Sw2 := Lib.hid b.size
                have HB := Lib.hid (chain0 (w := w) (by repeat (first | with_reducible exact Below.refl _ _ | with_reducible exact HB.out | with_reducible apply Below.drew | with_reducible apply bdN | with_reducible refine Below.alloc ?_ (by first | exact Nat.le_refl _ | with_reducible exact HB.out.size | omega | (simp; done) | (simp; omega) | (have := HB.out.size; simp at *; omega)) _ | with_reducible refine Below.setCell ?_ (by first | exact Nat.le_refl _ | with_reducible exact HB.out.size | omega | (simp; done) | (simp; omega) | (have := HB.out.size; simp at *; omega)) _)) b)
                have HR := Lib.hid (Rd.below (by repeat (first | with_reducible exact HR.out | with_reducible apply Rd.drewN | with_reducible apply Rd.drew | with_reducible apply Rd.alloc)) b)
                have K2 : Hid (GBox _ (w.heap.size) (⟨27, s, nx, .slice p n c, .slice ps ns cs, .slice pw nw cw⟩)) := Lib.hid (GBox.below (by repeat (first | with_reducible exact K2.out | with_reducible apply GBox.drewN | with_reducible apply GBox.drew | (with_reducible refine GBox.newAt ?_ ?_ <;> first | (simp; done) | rfl) | with_reducible apply GBox.alloc)) b)
                have K3 : Hid (CBox _ (w.heap.size + 1) (⟨45, cl⟩)) := Lib.hid (CBox.below (by repeat (first | with_reducible exact K3.out | with_reducible apply CBox.drewN | with_reducible apply CBox.drew | (with_reducible refine CBox.newAt ?_ ?_ <;> first | (simp; done) | rfl) | with_reducible apply CBox.alloc)) b)
                try clear k2a k2b k2c k2d k2e k2z
                have k2z := K2.out.lt
                obtain ⟨k2a, k2b, k2c, k2d, k2e⟩ := K2.out.cell
                try clear k3a k3b k3c k3d k3z
                have k3z := K3.out.lt
                obtain ⟨k3a, k3b, k3c, k3d⟩ := K3.out.cell
                clear b
                go_wp2_with fail
                refine wp_loop_rounds 4 ?_
                rw [rounds_succ]
                go_wp2_with fail
                have qk2a := fun d os => cell_regrown k2a d os
                have qk2b := fun d os => cell_regrown k2b d os
                have qk2c := fun d os => cell_regrown k2c d os
                have qk2d := fun d os => cell_regrown k2d d os
                have qk2e := fun d os => cell_regrown k2e d os
                have qk3a := fun d os => cell_regrown k3a d os
                have qk3b := fun d os => cell_regrown k3b d os
                have qk3c := fun d os => cell_regrown k3c d os
                have qk3d := fun d os => cell_regrown k3d d os
                refine wp_region_quiet_below (by kernel_rfl) (by kernel_rfl) ?_
                repeat (first | go_big_quiet_step ((go_at_call 54; first | with_reducible exact Calls.regrown_of (HC0.out _))) | quiet_step ((go_at_call 54; first | with_reducible exact Calls.regrown_of (HC0.out _))))
                refine wpQuiet_nil ?_
                intro v0 hw2
                have b : Below w2.heap.size w2 v0 := by obtain ⟨r, hr⟩ := hw2; rw [hr]; exact below_regrown _ _ _
                clear hw2 qk2a qk2b qk2c qk3a qk3b qk3c
                have Sv0 := Lib.hid b.size
                have HB := Lib.hid (chain0 (w := w) (by repeat (first | with_reducible exact Below.refl _ _ | with_reducible exact HB.out | with_reducible apply Below.drew | with_reducible apply bdN | with_reducible refine Below.alloc ?_ (by first | exact Nat.le_refl _ | with_reducible exact HB.out.size | omega | (simp; done) | (simp; omega) | (have := HB.out.size; simp at *; omega)) _ | with_reducible refine Below.setCell ?_ (by first | exact Nat.le_refl _ | with_reducible exact HB.out.size | omega | (simp; done) | (simp; omega) | (have := HB.out.size; simp at *; omega)) _)) b)
                have HR := Lib.hid (Rd.below (by repeat (first | with_reducible exact HR.out | with_reducible apply Rd.drewN | with_reducible apply Rd.drew | with_reducible apply Rd.alloc)) b)
                have K2 : Hid (GBox _ (w.heap.size) (⟨27, s, nx, .slice p n c, .slice ps ns cs, .slice pw nw cw⟩)) := Lib.hid (GBox.below (by repeat (first | with_reducible exact K2.out | with_reducible apply GBox.drewN | with_reducible apply GBox.drew | (with_reducible refine GBox.newAt ?_ ?_ <;> first | (simp; done) | rfl) | with_reducible apply GBox.alloc)) b)
                have K3 : Hid (CBox _ (w.heap.size + 1) (⟨45, cl⟩)) := Lib.hid (CBox.below (by repeat (first | with_reducible exact K3.out | with_reducible apply CBox.drewN | with_reducible apply CBox.drew | (with_reducible refine CBox.newAt ?_ ?_ <;> first | (simp; done) | rfl) | with_reducible apply CBox.alloc)) b)
                try clear k2a k2b k2c k2d k2e k2z
                have k2z := K2.out.lt
                obtain ⟨k2a, k2b, k2c, k2d, k2e⟩ := K2.out.cell
                try clear k3a k3b k3c k3d k3z
                have k3z := K3.out.lt
                obtain ⟨k3a, k3b, k3c, k3d⟩ := K3.out.cell
                clear b
                go_wp2_with fail
                rw [rounds_succ]
                go_wp2_with fail
                have qk2a := fun d os => cell_regrown k2a d os
                have qk2b := fun d os => cell_regrown k2b d os
                have qk2c := fun d os => cell_regrown k2c d os
                have qk2d := fun d os => cell_regrown k2d d os
                have qk2e := fun d os => cell_regrown k2e d os
                have qk3a := fun d os => cell_regrown k3a d os
                have qk3b := fun d os => cell_regrown k3b d os
                have qk3c := fun d os => cell_regrown k3c d os
                have qk3d := fun d os => cell_regrown k3d d os
                refine wp_region_quiet_below (by kernel_rfl) (by kernel_rfl) ?_
                repeat (first | go_big_quiet_step ((go_at_call 54; first | with_reducible exact Calls.regrown_of (HC0.out _) | with_reducible exact Calls.regrown_of (HC1.out _))) | quiet_step ((go_at_call 54; first | with_reducible exact Calls.regrown_of (HC0.out _) | with_reducible exact Calls.regrown_of (HC1.out _))))
                refine wpQuiet_nil ?_
                intro v1 hw2
                have b : Below v0.heap.size v0 v1 := by obtain ⟨r, hr⟩ := hw2; rw [hr]; exact below_regrown _ _ _
                clear hw2 qk2a qk2b qk2c qk3a qk3b qk3c
                have Sv1 := Lib.hid b.size
                have HB := Lib.hid (chain0 (w := w) (by repeat (first | with_reducible exact Below.refl _ _ | with_reducible exact HB.out | with_reducible apply Below.drew | with_reducible apply bdN | with_reducible refine Below.alloc ?_ (by first | exact Nat.le_refl _ | with_reducible exact HB.out.size | omega | (simp; done) | (simp; omega) | (have := HB.out.size; simp at *; omega)) _ | with_reducible refine Below.setCell ?_ (by first | exact Nat.le_refl _ | with_reducible exact HB.out.size | omega | (simp; done) | (simp; omega) | (have := HB.out.size; simp at *; omega)) _)) b)
                have HR := Lib.hid (Rd.below (by repeat (first | with_reducible exact HR.out | with_reducible apply Rd.drewN | with_reducible apply Rd.drew | with_reducible apply Rd.alloc)) b)
                have K2 : Hid (GBox _ (w.heap.size) (⟨27, s, nx, .slice p n c, .slice ps ns cs, .slice pw nw cw⟩)) := Lib.hid (GBox.below (by repeat (first | with_reducible exact K2.out | with_reducible apply GBox.drewN | with_reducible apply GBox.drew | (with_reducible refine GBox.newAt ?_ ?_ <;> first | (simp; done) | rfl) | with_reducible apply GBox.alloc)) b)
                have K3 : Hid (CBox _ (w.heap.size + 1) (⟨45, cl⟩)) := Lib.hid (CBox.below (by repeat (first | with_reducible exact K3.out | with_reducible apply CBox.drewN | with_reducible apply CBox.drew | (with_reducible refine CBox.newAt ?_ ?_ <;> first | (simp; done) | rfl) | with_reducible apply CBox.alloc)) b)
                try clear k2a k2b k2c k2d k2e k2z
                have k2z := K2.out.lt
                obtain ⟨k2a, k2b, k2c, k2d, k2e⟩ := K2.out.cell
                try clear k3a k3b k3c k3d k3z
                have k3z := K3.out.lt
                obtain ⟨k3a, k3b, k3c, k3d⟩ := K3.out.cell
                clear b
                go_wp2_with fail
                rw [rounds_succ]
                go_wp2_with fail
                have qk2a := fun d os => cell_regrown k2a d os
                have qk2b := fun d os => cell_regrown k2b d os
                have qk2c := fun d os => cell_regrown k2c d os
                have qk2d := fun d os => cell_regrown k2d d os
                have qk2e := fun d os => cell_regrown k2e d os
                have qk3a := fun d os => cell_regrown k3a d os
                have qk3b := fun d os => cell_regrown k3b d os
                have qk3c := fun d os => cell_regrown k3c d os
                have qk3d := fun d os => cell_regrown k3d d os
                refine wp_region_quiet_below (by kernel_rfl) (by kernel_rfl) ?_
                repeat (first | go_big_quiet_step ((go_at_call 54; first | with_reducible exact Calls.regrown_of (HC0.out _) | with_reducible exact Calls.regrown_of (HC1.out _) | with_reducible exact Calls.regrown_of (HC2.out _))) | quiet_step ((go_at_call 54; first | with_reducible exact Calls.regrown_of (HC0.out _) | with_reducible exact Calls.regrown_of (HC1.out _) | with_reducible exact Calls.regrown_of (HC2.out _))))
                refine wpQuiet_nil ?_
                intro v2 hw2
                have b : Below v1.heap.size v1 v2 := by obtain ⟨r, hr⟩ := hw2; rw [hr]; exact below_regrown _ _ _
                clear hw2 qk2a qk2b qk2c qk3a qk3b qk3c
                have Sv2 := Lib.hid b.size
                have HB := Lib.hid (chain0 (w := w) (by repeat (first | with_reducible exact Below.refl _ _ | with_reducible exact HB.out | with_reducible apply Below.drew | with_reducible apply bdN | with_reducible refine Below.alloc ?_ (by first | exact Nat.le_refl _ | with_reducible exact HB.out.size | omega | (simp; done) | (simp; omega) | (have := HB.out.size; simp at *; omega)) _ | with_reducible refine Below.setCell ?_ (by first | exact Nat.le_refl _ | with_reducible exact HB.out.size | omega | (simp; done) | (simp; omega) | (have := HB.out.size; simp at *; omega)) _)) b)
                have HR := Lib.hid (Rd.below (by repeat (first | with_reducible exact HR.out | with_reducible apply Rd.drewN | with_reducible apply Rd.drew | with_reducible apply Rd.alloc)) b)
                have K2 : Hid (GBox _ (w.heap.size) (⟨27, s, nx, .slice p n c, .slice ps ns cs, .slice pw nw cw⟩)) := Lib.hid (GBox.below (by repeat (first | with_reducible exact K2.out | with_reducible apply GBox.drewN | with_reducible apply GBox.drew | (with_reducible refine GBox.newAt ?_ ?_ <;> first | (simp; done) | rfl) | with_reducible apply GBox.alloc)) b)
                have K3 : Hid (CBox _ (w.heap.size + 1) (⟨45, cl⟩)) := Lib.hid (CBox.below (by repeat (first | with_reducible exact K3.out | with_reducible apply CBox.drewN | with_reducible apply CBox.drew | (with_reducible refine CBox.newAt ?_ ?_ <;> first | (simp; done) | rfl) | with_reducible apply CBox.alloc)) b)
                try clear k2a k2b k2c k2d k2e k2z
                have k2z := K2.out.lt
                obtain ⟨k2a, k2b, k2c, k2d, k2e⟩ := K2.out.cell
                try clear k3a k3b k3c k3d k3z
                have k3z := K3.out.lt
                obtain ⟨k3a, k3b, k3c, k3d⟩ := K3.out.cell
                clear b
                go_wp2_with fail
                rw [rounds_succ]
                go_wp2_with fail
                go_ret
                exact ⟨rfl, by repeat (first | with_reducible exact Below.refl _ _ | with_reducible exact HB.out | with_reducible apply Below.drew | with_reducible apply bdN | with_reducible refine Below.alloc ?_ (by first | exact Nat.le_refl _ | with_reducible exact HB.out.size | omega | (simp; done) | (simp; omega) | (have := HB.out.size; simp at *; omega)) _ | with_reducible refine Below.setCell ?_ (by first | exact Nat.le_refl _ | with_reducible exact HB.out.size | omega | (simp; done) | (simp; omega) | (have := HB.out.size; simp at *; omega)) _)⟩
              · skip
                have HC0 := Lib.hid (show ∀ w, Calls Try.prog 54 #[.int .i64 cl.b, .int .i64 0, .int .i64 ((n : Int) - 1)] w fun e w' => e = .returned (.bool true) ∧ Below w.heap.size w w' from fun w => by have h := l1_in cl.b 0 ((n : Int) - 1) w; rwa [decide_eq_true hi0] at h)
                have HC1 := Lib.hid (show ∀ w, Calls Try.prog 54 #[.int .i64 cl.c, .int .i64 0, .int .i64 ((n : Int) - 1)] w fun e w' => e = .returned (.bool true) ∧ Below w.heap.size w w' from fun w => by have h := l1_in cl.c 0 ((n : Int) - 1) w; rwa [decide_eq_true hi1] at h)
                have HC2 := Lib.hid (show ∀ w, Calls Try.prog 54 #[.int .i64 cl.d, .int .i64 0, .int .i64 ((n : Int) - 1)] w fun e w' => e = .returned (.bool true) ∧ Below w.heap.size w w' from fun w => by have h := l1_in cl.d 0 ((n : Int) - 1) w; rwa [decide_eq_true hi2] at h)
                have HT := Lib.hid (kind_i (l := l) HRn.out (by rw [H2.out]; unfold onT plc; rw [HN.out]; simp only [Bool.true_and]; exact decide_eq_false (by omega)))
                rw [HT.out]
                go_enter Try.func68, Try.ntmps68
                go_upto_region 1 with fail
                obtain ⟨w0, ew, b⟩ : ∃ wOPN : World, wOPN = ((w.alloc (Gv.obj ⟨27, s, nx, .slice p n c, .slice ps ns cs, .slice pw nw cw⟩)).alloc (Cv.obj ⟨45, cl⟩)) ∧ Below (((w.alloc (Gv.obj ⟨27, s, nx, .slice p n c, .slice ps ns cs, .slice pw nw cw⟩)).alloc (Cv.obj ⟨45, cl⟩))).heap.size (((w.alloc (Gv.obj ⟨27, s, nx, .slice p n c, .slice ps ns cs, .slice pw nw cw⟩)).alloc (Cv.obj ⟨45, cl⟩))) wOPN := ⟨_, rfl, Below.refl _ _⟩
                rw [← ew]
                clear ew
                have Sw0 := Lib.hid b.size
                have HB := Lib.hid (chain0 (w := w) (by repeat (first | with_reducible exact Below.refl _ _ | with_reducible exact HB.out | with_reducible apply Below.drew | with_reducible apply bdN | with_reducible refine Below.alloc ?_ (by first | exact Nat.le_refl _ | with_reducible exact HB.out.size | omega | (simp; done) | (simp; omega) | (have := HB.out.size; simp at *; omega)) _ | with_reducible refine Below.setCell ?_ (by first | exact Nat.le_refl _ | with_reducible exact HB.out.size | omega | (simp; done) | (simp; omega) | (have := HB.out.size; simp at *; omega)) _)) b)
                have HR := Lib.hid (Rd.below (by repeat (first | with_reducible exact HR.out | with_reducible apply Rd.drewN | with_reducible apply Rd.drew | with_reducible apply Rd.alloc)) b)
                have K2 : Hid (GBox _ (w.heap.size) (⟨27, s, nx, .slice p n c, .slice ps ns cs, .slice pw nw cw⟩)) := Lib.hid (GBox.below (by repeat (first | with_reducible exact K2.out | with_reducible apply GBox.drewN | with_reducible apply GBox.drew | (with_reducible refine GBox.newAt ?_ ?_ <;> first | (simp; done) | rfl) | with_reducible apply GBox.alloc)) b)
                have K3 : Hid (CBox _ (w.heap.size + 1) (⟨45, cl⟩)) := Lib.hid (CBox.below (by repeat (first | with_reducible exact K3.out | with_reducible apply CBox.drewN | with_reducible apply CBox.drew | (with_reducible refine CBox.newAt ?_ ?_ <;> first | (simp; done) | rfl) | with_reducible apply CBox.alloc)) b)
                try clear k2a k2b k2c k2d k2e k2z
                have k2z := K2.out.lt
                obtain ⟨k2a, k2b, k2c, k2d, k2e⟩ := K2.out.cell
                try clear k3a k3b k3c k3d k3z
                have k3z := K3.out.lt
                obtain ⟨k3a, k3b, k3c, k3d⟩ := K3.out.cell
                clear b
                go_wp2_with fail
                refine ((HPl.out _)).mono ?_
                rintro e w1 ⟨rfl, b⟩
                have Sw1 := Lib.hid b.size
                have HB := Lib.hid (chain0 (w := w) (by repeat (first | with_reducible exact Below.refl _ _ | with_reducible exact HB.out | with_reducible apply Below.drew | with_reducible apply bdN | with_reducible refine Below.alloc ?_ (by first | exact Nat.le_refl _ | with_reducible exact HB.out.size | omega | (simp; done) | (simp; omega) | (have := HB.out.size; simp at *; omega)) _ | with_reducible refine Below.setCell ?_ (by first | exact Nat.le_refl _ | with_reducible exact HB.out.size | omega | (simp; done) | (simp; omega) | (have := HB.out.size; simp at *; omega)) _)) b)
                have HR := Lib.hid (Rd.below (by repeat (first | with_reducible exact HR.out | with_reducible apply Rd.drewN | with_reducible apply Rd.drew | with_reducible apply Rd.alloc)) b)
                have K2 : Hid (GBox _ (w.heap.size) (⟨27, s, nx, .slice p n c, .slice ps ns cs, .slice pw nw cw⟩)) := Lib.hid (GBox.below (by repeat (first | with_reducible exact K2.out | with_reducible apply GBox.drewN | with_reducible apply GBox.drew | (with_reducible refine GBox.newAt ?_ ?_ <;> first | (simp; done) | rfl) | with_reducible apply GBox.alloc)) b)
                have K3 : Hid (CBox _ (w.heap.size + 1) (⟨45, cl⟩)) := Lib.hid (CBox.below (by repeat (first | with_reducible exact K3.out | with_reducible apply CBox.drewN | with_reducible apply CBox.drew | (with_reducible refine CBox.newAt ?_ ?_ <;> first | (simp; done) | rfl) | with_reducible apply CBox.alloc)) b)
                try clear k2a k2b k2c k2d k2e k2z
                have k2z := K2.out.lt
                obtain ⟨k2a, k2b, k2c, k2d, k2e⟩ := K2.out.cell
                try clear k3a k3b k3c k3d k3z
                have k3z := K3.out.lt
                obtain ⟨k3a, k3b, k3c, k3d⟩ := K3.out.cell
                clear b
                go_wp2_with fail
                refine ((HLi.out _ HR.out)).mono ?_
                rintro e w2 ⟨rfl, b⟩
                have Sw2 := Lib.hid b.size
                have HB := Lib.hid (chain0 (w := w) (by repeat (first | with_reducible exact Below.refl _ _ | with_reducible exact HB.out | with_reducible apply Below.drew | with_reducible apply bdN | with_reducible refine Below.alloc ?_ (by first | exact Nat.le_refl _ | with_reducible exact HB.out.size | omega | (simp; done) | (simp; omega) | (have := HB.out.size; simp at *; omega)) _ | with_reducible refine Below.setCell ?_ (by first | exact Nat.le_refl _ | with_reducible exact HB.out.size | omega | (simp; done) | (simp; omega) | (have := HB.out.size; simp at *; omega)) _)) b)
                have HR := Lib.hid (Rd.below (by repeat (first | with_reducible exact HR.out | with_reducible apply Rd.drewN | with_reducible apply Rd.drew | with_reducible apply Rd.alloc)) b)
                have K2 : Hid (GBox _ (w.heap.size) (⟨27, s, nx, .slice p n c, .slice ps ns cs, .slice pw nw cw⟩)) := Lib.hid (GBox.below (by repeat (first | with_reducible exact K2.out | with_reducible apply GBox.drewN | with_reducible apply GBox.drew | (with_reducible refine GBox.newAt ?_ ?_ <;> first | (simp; done) | rfl) | with_reducible apply GBox.alloc)) b)
                have K3 : Hid (CBox _ (w.heap.size + 1) (⟨45, cl⟩)) := Lib.hid (CBox.below (by repeat (first | with_reducible exact K3.out | with_reducible apply CBox.drewN | with_reducible apply CBox.drew | (with_reducible refine CBox.newAt ?_ ?_ <;> first | (simp; done) | rfl) | with_reducible apply CBox.alloc)) b)
                try clear k2a k2b k2c k2d k2e k2z
                have k2z := K2.out.lt
                obtain ⟨k2a, k2b, k2c, k2d, k2e⟩ := K2.out.cell
                try clear k3a k3b k3c k3d k3z
                have k3z := K3.out.lt
                obtain ⟨k3a, k3b, k3c, k3d⟩ := K3.out.cell
                clear b
                go_wp2_with fail
                refine wp_loop_rounds 4 ?_
                rw [rounds_succ]
                go_wp2_with fail
                have qk2a := fun d os => cell_regrown k2a d os
                have qk2b := fun d os => cell_regrown k2b d os
                have qk2c := fun d os => cell_regrown k2c d os
                have qk2d := fun d os => cell_regrown k2d d os
                have qk2e := fun d os => cell_regrown k2e d os
                have qk3a := fun d os => cell_regrown k3a d os
                have qk3b := fun d os => cell_regrown k3b d os
                have qk3c := fun d os => cell_regrown k3c d os
                have qk3d := fun d os => cell_regrown k3d d os
                refine wp_region_quiet_below (by kernel_rfl) (by kernel_rfl) ?_
                repeat (first | go_big_quiet_step ((go_at_call 54; first | with_reducible exact Calls.regrown_of (HC0.out _))) | quiet_step ((go_at_call 54; first | with_reducible exact Calls.regrown_of (HC0.out _))))
                refine wpQuiet_nil ?_
                intro v0 hw2
                have b : Below w2.heap.size w2 v0 := by obtain ⟨r, hr⟩ := hw2; rw [hr]; exact below_regrown _ _ _
                clear hw2 qk2a qk2b qk2c qk3a qk3b qk3c
                have Sv0 := Lib.hid b.size
                have HB := Lib.hid (chain0 (w := w) (by repeat (first | with_reducible exact Below.refl _ _ | with_reducible exact HB.out | with_reducible apply Below.drew | with_reducible apply bdN | with_reducible refine Below.alloc ?_ (by first | exact Nat.le_refl _ | with_reducible exact HB.out.size | omega | (simp; done) | (simp; omega) | (have := HB.out.size; simp at *; omega)) _ | with_reducible refine Below.setCell ?_ (by first | exact Nat.le_refl _ | with_reducible exact HB.out.size | omega | (simp; done) | (simp; omega) | (have := HB.out.size; simp at *; omega)) _)) b)
                have HR := Lib.hid (Rd.below (by repeat (first | with_reducible exact HR.out | with_reducible apply Rd.drewN | with_reducible apply Rd.drew | with_reducible apply Rd.alloc)) b)
                have K2 : Hid (GBox _ (w.heap.size) (⟨27, s, nx, .slice p n c, .slice ps ns cs, .slice pw nw cw⟩)) := Lib.hid (GBox.below (by repeat (first | with_reducible exact K2.out | with_reducible apply GBox.drewN | with_reducible apply GBox.drew | (with_reducible refine GBox.newAt ?_ ?_ <;> first | (simp; done) | rfl) | with_reducible apply GBox.alloc)) b)
                have K3 : Hid (CBox _ (w.heap.size + 1) (⟨45, cl⟩)) := Lib.hid (CBox.below (by repeat (first | with_reducible exact K3.out | with_reducible apply CBox.drewN | with_reducible apply CBox.drew | (with_reducible refine CBox.newAt ?_ ?_ <;> first | (simp; done) | rfl) | with_reducible apply CBox.alloc)) b)
                try clear k2a k2b k2c k2d k2e k2z
                have k2z := K2.out.lt
                obtain ⟨k2a, k2b, k2c, k2d, k2e⟩ := K2.out.cell
                try clear k3a k3b k3c k3d k3z
                have k3z := K3.out.lt
                obtain ⟨k3a, k3b, k3c, k3d⟩ := K3.out.cell
                clear b
                go_wp2_with fail
                rw [rounds_succ]
                go_wp2_with fail
                have qk2a := fun d os => cell_regrown k2a d os
                have qk2b := fun d os => cell_regrown k2b d os
                have qk2c := fun d os => cell_regrown k2c d os
                have qk2d := fun d os => cell_regrown k2d d os
                have qk2e := fun d os => cell_regrown k2e d os
                have qk3a := fun d os => cell_regrown k3a d os
                have qk3b := fun d os => cell_regrown k3b d os
                have qk3c := fun d os => cell_regrown k3c d os
                have qk3d := fun d os => cell_regrown k3d d os
                refine wp_region_quiet_below (by kernel_rfl) (by kernel_rfl) ?_
                repeat (first | go_big_quiet_step ((go_at_call 54; first | with_reducible exact Calls.regrown_of (HC0.out _) | with_reducible exact Calls.regrown_of (HC1.out _))) | quiet_step ((go_at_call 54; first | with_reducible exact Calls.regrown_of (HC0.out _) | with_reducible exact Calls.regrown_of (HC1.out _))))
                refine wpQuiet_nil ?_
                intro v1 hw2
                have b : Below v0.heap.size v0 v1 := by obtain ⟨r, hr⟩ := hw2; rw [hr]; exact below_regrown _ _ _
                clear hw2 qk2a qk2b qk2c qk3a qk3b qk3c
                have Sv1 := Lib.hid b.size
                have HB := Lib.hid (chain0 (w := w) (by repeat (first | with_reducible exact Below.refl _ _ | with_reducible exact HB.out | with_reducible apply Below.drew | with_reducible apply bdN | with_reducible refine Below.alloc ?_ (by first | exact Nat.le_refl _ | with_reducible exact HB.out.size | omega | (simp; done) | (simp; omega) | (have := HB.out.size; simp at *; omega)) _ | with_reducible refine Below.setCell ?_ (by first | exact Nat.le_refl _ | with_reducible exact HB.out.size | omega | (simp; done) | (simp; omega) | (have := HB.out.size; simp at *; omega)) _)) b)
                have HR := Lib.hid (Rd.below (by repeat (first | with_reducible exact HR.out | with_reducible apply Rd.drewN | with_reducible apply Rd.drew | with_reducible apply Rd.alloc)) b)
                have K2 : Hid (GBox _ (w.heap.size) (⟨27, s, nx, .slice p n c, .slice ps ns cs, .slice pw nw cw⟩)) := Lib.hid (GBox.below (by repeat (first | with_reducible exact K2.out | with_reducible apply GBox.drewN | with_reducible apply GBox.drew | (with_reducible refine GBox.newAt ?_ ?_ <;> first | (simp; done) | rfl) | with_reducible apply GBox.alloc)) b)
                have K3 : Hid (CBox _ (w.heap.size + 1) (⟨45, cl⟩)) := Lib.hid (CBox.below (by repeat (first | with_reducible exact K3.out | with_reducible apply CBox.drewN | with_reducible apply CBox.drew | (with_reducible refine CBox.newAt ?_ ?_ <;> first | (simp; done) | rfl) | with_reducible apply CBox.alloc)) b)
                try clear k2a k2b k2c k2d k2e k2z
                have k2z := K2.out.lt
                obtain ⟨k2a, k2b, k2c, k2d, k2e⟩ := K2.out.cell
                try clear k3a k3b k3c k3d k3z
                have k3z := K3.out.lt
                obtain ⟨k3a, k3b, k3c, k3d⟩ := K3.out.cell
                clear b
                go_wp2_with fail
                rw [rounds_succ]
                go_wp2_with fail
                have qk2a := fun d os => cell_regrown k2a d os
                have qk2b := fun d os => cell_regrown k2b d os
                have qk2c := fun d os => cell_regrown k2c d os
                have qk2d := fun d os => cell_regrown k2d d os
                have qk2e := fun d os => cell_regrown k2e d os
                have qk3a := fun d os => cell_regrown k3a d os
                have qk3b := fun d os => cell_regrown k3b d os
                have qk3c := fun d os => cell_regrown k3c d os
                have qk3d := fun d os => cell_regrown k3d d os
                refine wp_region_quiet_below (by kernel_rfl) (by kernel_rfl) ?_
                repeat (first | go_big_quiet_step ((go_at_call 54; first | with_reducible exact Calls.regrown_of (HC0.out _) | with_reducible exact Calls.regrown_of (HC1.out _) | with_reducible exact Calls.regrown_of (HC2.out _))) | quiet_step ((go_at_call 54; first | with_reducible exact Calls.regrown_of (HC0.out _) | with_reducible exact Calls.regrown_of (HC1.out _) | with_reducible exact Calls.regrown_of (HC2.out _))))
                refine wpQuiet_nil ?_
                intro v2 hw2
                have b : Below v1.heap.size v1 v2 := by obtain ⟨r, hr⟩ := hw2; rw [hr]; exact below_regrown _ _ _
                clear hw2 qk2a qk2b qk2c qk3a qk3b qk3c
                have Sv2 := Lib.hid b.size
                have HB := Lib.hid (chain0 (w := w) (by repeat (first | with_reducible exact Below.refl _ _ | with_reducible exact HB.out | with_reducible apply Below.drew | with_reducible apply bdN | with_reducible refine Below.alloc ?_ (by first | exact Nat.le_refl _ | with_reducible exact HB.out.size | omega | (simp; done) | (simp; omega) | (have := HB.out.size; simp at *; omega)) _ | with_reducible refine Below.setCell ?_ (by first | exact Nat.le_refl _ | with_reducible exact HB.out.size | omega | (simp; done) | (simp; omega) | (have := HB.out.size; simp at *; omega)) _)) b)
                have HR := Lib.hid (Rd.below (by repeat (first | with_reducible exact HR.out | with_reducible apply Rd.drewN | with_reducible apply Rd.drew | with_reducible apply Rd.alloc)) b)
                have K2 : Hid (GBox _ (w.heap.size) (⟨27, s, nx, .slice p n c, .slice ps ns cs, .slice pw nw cw⟩)) := Lib.hid (GBox.below (by repeat (first | with_reducible exact K2.out | with_reducible apply GBox.drewN | with_reducible apply GBox.drew | (with_reducible refine GBox.newAt ?_ ?_ <;> first | (simp; done) | rfl) | with_reducible apply GBox.alloc)) b)
                have K3 : Hid (CBox _ (w.heap.size + 1) (⟨45, cl⟩)) := Lib.hid (CBox.below (by repeat (first | with_reducible exact K3.out | with_reducible apply CBox.drewN | with_reducible apply CBox.drew | (with_reducible refine CBox.newAt ?_ ?_ <;> first | (simp; done) | rfl) | with_reducible apply CBox.alloc)) b)
                try clear k2a k2b k2c k2d k2e k2z
                have k2z := K2.out.lt
                obtain ⟨k2a, k2b, k2c, k2d, k2e⟩ := K2.out.cell
                try clear k3a k3b k3c k3d k3z
                have k3z := K3.out.lt
                obtain ⟨k3a, k3b, k3c, k3d⟩ := K3.out.cell
                clear b
                go_wp2_with fail
                go_ret
                exact ⟨rfl, by repeat (first | with_reducible exact Below.refl _ _ | with_reducible exact HB.out | with_reducible apply Below.drew | with_reducible apply bdN | with_reducible refine Below.alloc ?_ (by first | exact Nat.le_refl _ | with_reducible exact HB.out.size | omega | (simp; done) | (simp; omega) | (have := HB.out.size; simp at *; omega)) _ | with_reducible refine Below.setCell ?_ (by first | exact Nat.le_refl _ | with_reducible exact HB.out.size | omega | (simp; done) | (simp; omega) | (have := HB.out.size; simp at *; omega)) _)⟩
            · skip
              have HC0 := Lib.hid (show ∀ w, Calls Try.prog 54 #[.int .i64 cl.b, .int .i64 0, .int .i64 ((n : Int) - 1)] w fun e w' => e = .returned (.bool true) ∧ Below w.heap.size w w' from fun w => by have h := l1_in cl.b 0 ((n : Int) - 1) w; rwa [decide_eq_true hi0] at h)
              have HC1 := Lib.hid (show ∀ w, Calls Try.prog 54 #[.int .i64 cl.c, .int .i64 0, .int .i64 ((n : Int) - 1)] w fun e w' => e = .returned (.bool true) ∧ Below w.heap.size w w' from fun w => by have h := l1_in cl.c 0 ((n : Int) - 1) w; rwa [decide_eq_true hi1] at h)
              have HC2 := Lib.hid (show ∀ w, Calls Try.prog 54 #[.int .i64 cl.d, .int .i64 0, .int .i64 ((n : Int) - 1)] w fun e w' => e = .returned (.bool false) ∧ Below w.heap.size w w' from fun w => by have h := l1_in cl.d 0 ((n : Int) - 1) w; rwa [decide_eq_false hi2] at h)
              have HT := Lib.hid (kind_i (l := l) HRn.out (by rw [H2.out]; unfold onT plc; rw [HN.out]; simp only [Bool.true_and]; exact decide_eq_false (by omega)))
              rw [HT.out]
              go_enter Try.func68, Try.ntmps68
              go_upto_region 1 with fail
              obtain ⟨w0, ew, b⟩ : ∃ wOPN : World, wOPN = ((w.alloc (Gv.obj ⟨27, s, nx, .slice p n c, .slice ps ns cs, .slice pw nw cw⟩)).alloc (Cv.obj ⟨45, cl⟩)) ∧ Below (((w.alloc (Gv.obj ⟨27, s, nx, .slice p n c, .slice ps ns cs, .slice pw nw cw⟩)).alloc (Cv.obj ⟨45, cl⟩))).heap.size (((w.alloc (Gv.obj ⟨27, s, nx, .slice p n c, .slice ps ns cs, .slice pw nw cw⟩)).alloc (Cv.obj ⟨45, cl⟩))) wOPN := ⟨_, rfl, Below.refl _ _⟩
              rw [← ew]
              clear ew
              have Sw0 := Lib.hid b.size
              have HB := Lib.hid (chain0 (w := w) (by repeat (first | with_reducible exact Below.refl _ _ | with_reducible exact HB.out | with_reducible apply Below.drew | with_reducible apply bdN | with_reducible refine Below.alloc ?_ (by first | exact Nat.le_refl _ | with_reducible exact HB.out.size | omega | (simp; done) | (simp; omega) | (have := HB.out.size; simp at *; omega)) _ | with_reducible refine Below.setCell ?_ (by first | exact Nat.le_refl _ | with_reducible exact HB.out.size | omega | (simp; done) | (simp; omega) | (have := HB.out.size; simp at *; omega)) _)) b)
              have HR := Lib.hid (Rd.below (by repeat (first | with_reducible exact HR.out | with_reducible apply Rd.drewN | with_reducible apply Rd.drew | with_reducible apply Rd.alloc)) b)
              have K2 : Hid (GBox _ (w.heap.size) (⟨27, s, nx, .slice p n c, .slice ps ns cs, .slice pw nw cw⟩)) := Lib.hid (GBox.below (by repeat (first | with_reducible exact K2.out | with_reducible apply GBox.drewN | with_reducible apply GBox.drew | (with_reducible refine GBox.newAt ?_ ?_ <;> first | (simp; done) | rfl) | with_reducible apply GBox.alloc)) b)
              have K3 : Hid (CBox _ (w.heap.size + 1) (⟨45, cl⟩)) := Lib.hid (CBox.below (by repeat (first | with_reducible exact K3.out | with_reducible apply CBox.drewN | with_reducible apply CBox.drew | (with_reducible refine CBox.newAt ?_ ?_ <;> first | (simp; done) | rfl) | with_reducible apply CBox.alloc)) b)
              try clear k2a k2b k2c k2d k2e k2z
              have k2z := K2.out.lt
              obtain ⟨k2a, k2b, k2c, k2d, k2e⟩ := K2.out.cell
              try clear k3a k3b k3c k3d k3z
              have k3z := K3.out.lt
              obtain ⟨k3a, k3b, k3c, k3d⟩ := K3.out.cell
              clear b
              go_wp2_with fail
              refine ((HPl.out _)).mono ?_
              rintro e w1 ⟨rfl, b⟩
              have Sw1 := Lib.hid b.size
              have HB := Lib.hid (chain0 (w := w) (by repeat (first | with_reducible exact Below.refl _ _ | with_reducible exact HB.out | with_reducible apply Below.drew | with_reducible apply bdN | with_reducible refine Below.alloc ?_ (by first | exact Nat.le_refl _ | with_reducible exact HB.out.size | omega | (simp; done) | (simp; omega) | (have := HB.out.size; simp at *; omega)) _ | with_reducible refine Below.setCell ?_ (by first | exact Nat.le_refl _ | with_reducible exact HB.out.size | omega | (simp; done) | (simp; omega) | (have := HB.out.size; simp at *; omega)) _)) b)
              have HR := Lib.hid (Rd.below (by repeat (first | with_reducible exact HR.out | with_reducible apply Rd.drewN | with_reducible apply Rd.drew | with_reducible apply Rd.alloc)) b)
              have K2 : Hid (GBox _ (w.heap.size) (⟨27, s, nx, .slice p n c, .slice ps ns cs, .slice pw nw cw⟩)) := Lib.hid (GBox.below (by repeat (first | with_reducible exact K2.out | with_reducible apply GBox.drewN | with_reducible apply GBox.drew | (with_reducible refine GBox.newAt ?_ ?_ <;> first | (simp; done) | rfl) | with_reducible apply GBox.alloc)) b)
              have K3 : Hid (CBox _ (w.heap.size + 1) (⟨45, cl⟩)) := Lib.hid (CBox.below (by repeat (first | with_reducible exact K3.out | with_reducible apply CBox.drewN | with_reducible apply CBox.drew | (with_reducible refine CBox.newAt ?_ ?_ <;> first | (simp; done) | rfl) | with_reducible apply CBox.alloc)) b)
              try clear k2a k2b k2c k2d k2e k2z
              have k2z := K2.out.lt
              obtain ⟨k2a, k2b, k2c, k2d, k2e⟩ := K2.out.cell
              try clear k3a k3b k3c k3d k3z
              have k3z := K3.out.lt
              obtain ⟨k3a, k3b, k3c, k3d⟩ := K3.out.cell
              clear b
              go_wp2_with fail
              refine ((HLi.out _ HR.out)).mono ?_
              rintro e w2 ⟨rfl, b⟩
              have Sw2 := Lib.hid b.size
              have HB := Lib.hid (chain0 (w := w) (by repeat (first | with_reducible exact Below.refl _ _ | with_reducible exact HB.out | with_reducible apply Below.drew | with_reducible apply bdN | with_reducible refine Below.alloc ?_ (by first | exact Nat.le_refl _ | with_reducible exact HB.out.size | omega | (simp; done) | (simp; omega) | (have := HB.out.size; simp at *; omega)) _ | with_reducible refine Below.setCell ?_ (by first | exact Nat.le_refl _ | with_reducible exact HB.out.size | omega | (simp; done) | (simp; omega) | (have := HB.out.size; simp at *; omega)) _)) b)
              have HR := Lib.hid (Rd.below (by repeat (first | with_reducible exact HR.out | with_reducible apply Rd.drewN | with_reducible apply Rd.drew | with_reducible apply Rd.alloc)) b)
              have K2 : Hid (GBox _ (w.heap.size) (⟨27, s, nx, .slice p n c, .slice ps ns cs, .slice pw nw cw⟩)) := Lib.hid (GBox.below (by repeat (first | with_reducible exact K2.out | with_reducible apply GBox.drewN | with_reducible apply GBox.drew | (with_reducible refine GBox.newAt ?_ ?_ <;> first | (simp; done) | rfl) | with_reducible apply GBox.alloc)) b)
              have K3 : Hid (CBox _ (w.heap.size + 1) (⟨45, cl⟩)) := Lib.hid (CBox.below (by repeat (first | with_reducible exact K3.out | with_reducible apply CBox.drewN | with_reducible apply CBox.drew | (with_reducible refine CBox.newAt ?_ ?_ <;> first | (simp; done) | rfl) | with_reducible apply CBox.alloc)) b)
              try clear k2a k2b k2c k2d k2e k2z
              have k2z := K2.out.lt
              obtain ⟨k2a, k2b, k2c, k2d, k2e⟩ := K2.out.cell
              try clear k3a k3b k3c k3d k3z
              have k3z := K3.out.lt
              obtain ⟨k3a, k3b, k3c, k3d⟩ := K3.out.cell
              clear b
              go_wp2_with fail
              refine wp_loop_rounds 4 ?_
              rw [rounds_succ]
              go_wp2_with fail
              have qk2a := fun d os => cell_regrown k2a d os
              have qk2b := fun d os => cell_regrown k2b d os
              have qk2c := fun d os => cell_regrown k2c d os
              have qk2d := fun d os => cell_regrown k2d d os
              have qk2e := fun d os => cell_regrown k2e d os
              have qk3a := fun d os => cell_regrown k3a d os
              have qk3b := fun d os => cell_regrown k3b d os
              have qk3c := fun d os => cell_regrown k3c d os
              have qk3d := fun d os => cell_regrown k3d d os
              refine wp_region_quiet_below (by kernel_rfl) (by kernel_rfl) ?_
              repeat (first | go_big_quiet_step ((go_at_call 54; first | with_reducible exact Calls.regrown_of (HC0.out _))) | quiet_step ((go_at_call 54; first | with_reducible exact Calls.regrown_of (HC0.out _))))
              refine wpQuiet_nil ?_
              intro v0 hw2
              have b : Below w2.heap.size w2 v0 := by obtain ⟨r, hr⟩ := hw2; rw [hr]; exact below_regrown _ _ _
              clear hw2 qk2a qk2b qk2c qk3a qk3b qk3c
              have Sv0 := Lib.hid b.size
              have HB := Lib.hid (chain0 (w := w) (by repeat (first | with_reducible exact Below.refl _ _ | with_reducible exact HB.out | with_reducible apply Below.drew | with_reducible apply bdN | with_reducible refine Below.alloc ?_ (by first | exact Nat.le_refl _ | with_reducible exact HB.out.size | omega | (simp; done) | (simp; omega) | (have := HB.out.size; simp at *; omega)) _ | with_reducible refine Below.setCell ?_ (by first | exact Nat.le_refl _ | with_reducible exact HB.out.size | omega | (simp; done) | (simp; omega) | (have := HB.out.size; simp at *; omega)) _)) b)
              have HR := Lib.hid (Rd.below (by repeat (first | with_reducible exact HR.out | with_reducible apply Rd.drewN | with_reducible apply Rd.drew | with_reducible apply Rd.alloc)) b)
              have K2 : Hid (GBox _ (w.heap.size) (⟨27, s, nx, .slice p n c, .slice ps ns cs, .slice pw nw cw⟩)) := Lib.hid (GBox.below (by repeat (first | with_reducible exact K2.out | with_reducible apply GBox.drewN | with_reducible apply GBox.drew | (with_reducible refine GBox.newAt ?_ ?_ <;> first | (simp; done) | rfl) | with_reducible apply GBox.alloc)) b)
              have K3 : Hid (CBox _ (w.heap.size + 1) (⟨45, cl⟩)) := Lib.hid (CBox.below (by repeat (first | with_reducible exact K3.out | with_reducible apply CBox.drewN | with_reducible apply CBox.drew | (with_reducible refine CBox.newAt ?_ ?_ <;> first | (simp; done) | rfl) | with_reducible apply CBox.alloc)) b)
              try clear k2a k2b k2c k2d k2e k2z
              have k2z := K2.out.lt
              obtain ⟨k2a, k2b, k2c, k2d, k2e⟩ := K2.out.cell
              try clear k3a k3b k3c k3d k3z
              have k3z := K3.out.lt
              obtain ⟨k3a, k3b, k3c, k3d⟩ := K3.out.cell
              clear b
              go_wp2_with fail
              rw [rounds_succ]
              go_wp2_with fail
              have qk2a := fun d os => cell_regrown k2a d os
              have qk2b := fun d os => cell_regrown k2b d os
              have qk2c := fun d os => cell_regrown k2c d os
              have qk2d := fun d os => cell_regrown k2d d os
              have qk2e := fun d os => cell_regrown k2e d os
              have qk3a := fun d os => cell_regrown k3a d os
              have qk3b := fun d os => cell_regrown k3b d os
              have qk3c := fun d os => cell_regrown k3c d os
              have qk3d := fun d os => cell_regrown k3d d os
              refine wp_region_quiet_below (by kernel_rfl) (by kernel_rfl) ?_
              repeat (first | go_big_quiet_step ((go_at_call 54; first | with_reducible exact Calls.regrown_of (HC0.out _) | with_reducible exact Calls.regrown_of (HC1.out _))) | quiet_step ((go_at_call 54; first | with_reducible exact Calls.regrown_of (HC0.out _) | with_reducible exact Calls.regrown_of (HC1.out _))))
              refine wpQuiet_nil ?_
              intro v1 hw2
              have b : Below v0.heap.size v0 v1 := by obtain ⟨r, hr⟩ := hw2; rw [hr]; exact below_regrown _ _ _
              clear hw2 qk2a qk2b qk2c qk3a qk3b qk3c
              have Sv1 := Lib.hid b.size
              have HB := Lib.hid (chain0 (w := w) (by repeat (first | with_reducible exact Below.refl _ _ | with_reducible exact HB.out | with_reducible apply Below.drew | with_reducible apply bdN | with_reducible refine Below.alloc ?_ (by first | exact Nat.le_refl _ | with_reducible exact HB.out.size | omega | (simp; done) | (simp; omega) | (have := HB.out.size; simp at *; omega)) _ | with_reducible refine Below.setCell ?_ (by first | exact Nat.le_refl _ | with_reducible exact HB.out.size | omega | (simp; done) | (simp; omega) | (have := HB.out.size; simp at *; omega)) _)) b)
              have HR := Lib.hid (Rd.below (by repeat (first | with_reducible exact HR.out | with_reducible apply Rd.drewN | with_reducible apply Rd.drew | with_reducible apply Rd.alloc)) b)
              have K2 : Hid (GBox _ (w.heap.size) (⟨27, s, nx, .slice p n c, .slice ps ns cs, .slice pw nw cw⟩)) := Lib.hid (GBox.below (by repeat (first | with_reducible exact K2.out | with_reducible apply GBox.drewN | with_reducible apply GBox.drew | (with_reducible refine GBox.newAt ?_ ?_ <;> first | (simp; done) | rfl) | with_reducible apply GBox.alloc)) b)
              have K3 : Hid (CBox _ (w.heap.size + 1) (⟨45, cl⟩)) := Lib.hid (CBox.below (by repeat (first | with_reducible exact K3.out | with_reducible apply CBox.drewN | with_reducible apply CBox.drew | (with_reducible refine CBox.newAt ?_ ?_ <;> first | (simp; done) | rfl) | with_reducible apply CBox.alloc)) b)
              try clear k2a k2b k2c k2d k2e k2z
              have k2z := K2.out.lt
              obtain ⟨k2a, k2b, k2c, k2d, k2e⟩ := K2.out.cell
              try clear k3a k3b k3c k3d k3z
              have k3z := K3.out.lt
              obtain ⟨k3a, k3b, k3c, k3d⟩ := K3.out.cell
              clear b
              go_wp2_with fail
              rw [rounds_succ]
              go_wp2_with fail
              have qk2a := fun d os => cell_regrown k2a d os
              have qk2b := fun d os => cell_regrown k2b d os
              have qk2c := fun d os => cell_regrown k2c d os
              have qk2d := fun d os => cell_regrown k2d d os
              have qk2e := fun d os => cell_regrown k2e d os
              have qk3a := fun d os => cell_regrown k3a d os
              have qk3b := fun d os => cell_regrown k3b d os
              have qk3c := fun d os => cell_regrown k3c d os
              have qk3d := fun d os => cell_regrown k3d d os
              refine wp_region_quiet_below (by kernel_rfl) (by kernel_rfl) ?_
              repeat (first | go_big_quiet_step ((go_at_call 54; first | with_reducible exact Calls.regrown_of (HC0.out _) | with_reducible exact Calls.regrown_of (HC1.out _) | with_reducible exact Calls.regrown_of (HC2.out _))) | quiet_step ((go_at_call 54; first | with_reducible exact Calls.regrown_of (HC0.out _) | with_reducible exact Calls.regrown_of (HC1.out _) | with_reducible exact Calls.regrown_of (HC2.out _))))
              refine wpQuiet_nil ?_
              intro v2 hw2
              have b : Below v1.heap.size v1 v2 := by obtain ⟨r, hr⟩ := hw2; rw [hr]; exact below_regrown _ _ _
              clear hw2 qk2a qk2b qk2c qk3a qk3b qk3c
              have Sv2 := Lib.hid b.size
              have HB := Lib.hid (chain0 (w := w) (by repeat (first | with_reducible exact Below.refl _ _ | with_reducible exact HB.out | with_reducible apply Below.drew | with_reducible apply bdN | with_reducible refine Below.alloc ?_ (by first | exact Nat.le_refl _ | with_reducible exact HB.out.size | omega | (simp; done) | (simp; omega) | (have := HB.out.size; simp at *; omega)) _ | with_reducible refine Below.setCell ?_ (by first | exact Nat.le_refl _ | with_reducible exact HB.out.size | omega | (simp; done) | (simp; omega) | (have := HB.out.size; simp at *; omega)) _)) b)
              have HR := Lib.hid (Rd.below (by repeat (first | with_reducible exact HR.out | with_reducible apply Rd.drewN | with_reducible apply Rd.drew | with_reducible apply Rd.alloc)) b)
              have K2 : Hid (GBox _ (w.heap.size) (⟨27, s, nx, .slice p n c, .slice ps ns cs, .slice pw nw cw⟩)) := Lib.hid (GBox.below (by repeat (first | with_reducible exact K2.out | with_reducible apply GBox.drewN | with_reducible apply GBox.drew | (with_reducible refine GBox.newAt ?_ ?_ <;> first | (simp; done) | rfl) | with_reducible apply GBox.alloc)) b)
              have K3 : Hid (CBox _ (w.heap.size + 1) (⟨45, cl⟩)) := Lib.hid (CBox.below (by repeat (first | with_reducible exact K3.out | with_reducible apply CBox.drewN | with_reducible apply CBox.drew | (with_reducible refine CBox.newAt ?_ ?_ <;> first | (simp; done) | rfl) | with_reducible apply CBox.alloc)) b)
              try clear k2a k2b k2c k2d k2e k2z
              have k2z := K2.out.lt
              obtain ⟨k2a, k2b, k2c, k2d, k2e⟩ := K2.out.cell
              try clear k3a k3b k3c k3d k3z
              have k3z := K3.out.lt
              obtain ⟨k3a, k3b, k3c, k3d⟩ := K3.out.cell
              clear b
              go_wp2_with fail
              go_ret
              exact ⟨rfl, by repeat (first | with_reducible exact Below.refl _ _ | with_reducible exact HB.out | with_reducible apply Below.drew | with_reducible apply bdN | with_reducible refine Below.alloc ?_ (by first | exact Nat.le_refl _ | with_reducible exact HB.out.size | omega | (simp; done) | (simp; omega) | (have := HB.out.size; simp at *; omega)) _ | with_reducible refine Below.setCell ?_ (by first | exact Nat.le_refl _ | with_reducible exact HB.out.size | omega | (simp; done) | (simp; omega) | (have := HB.out.size; simp at *; omega)) _)⟩
          · skip
            have HC0 := Lib.hid (show ∀ w, Calls Try.prog 54 #[.int .i64 cl.b, .int .i64 0, .int .i64 ((n : Int) - 1)] w fun e w' => e = .returned (.bool true) ∧ Below w.heap.size w w' from fun w => by have h := l1_in cl.b 0 ((n : Int) - 1) w; rwa [decide_eq_true hi0] at h)
            have HC1 := Lib.hid (show ∀ w, Calls Try.prog 54 #[.int .i64 cl.c, .int .i64 0, .int .i64 ((n : Int) - 1)] w fun e w' => e = .returned (.bool true) ∧ Below w.heap.size w w' from fun w => by have h := l1_in cl.c 0 ((n : Int) - 1) w; rwa [decide_eq_true hi1] at h)
            have HT := Lib.hid (kind_i (l := l) HRn.out (by rw [H2.out]; unfold onT plc; rw [HN.out]; simp only [Bool.true_and]; exact decide_eq_false (by omega)))
            rw [HT.out]
            go_enter Try.func68, Try.ntmps68
            go_upto_region 1 with fail
            obtain ⟨w0, ew, b⟩ : ∃ wOPN : World, wOPN = ((w.alloc (Gv.obj ⟨27, s, nx, .slice p n c, .slice ps ns cs, .slice pw nw cw⟩)).alloc (Cv.obj ⟨45, cl⟩)) ∧ Below (((w.alloc (Gv.obj ⟨27, s, nx, .slice p n c, .slice ps ns cs, .slice pw nw cw⟩)).alloc (Cv.obj ⟨45, cl⟩))).heap.size (((w.alloc (Gv.obj ⟨27, s, nx, .slice p n c, .slice ps ns cs, .slice pw nw cw⟩)).alloc (Cv.obj ⟨45, cl⟩))) wOPN := ⟨_, rfl, Below.refl _ _⟩
            rw [← ew]
            clear ew
            have Sw0 := Lib.hid b.size
            have HB := Lib.hid (chain0 (w := w) (by repeat (first | with_reducible exact Below.refl _ _ | with_reducible exact HB.out | with_reducible apply Below.drew | with_reducible apply bdN | with_reducible refine Below.alloc ?_ (by first | exact Nat.le_refl _ | with_reducible exact HB.out.size | omega | (simp; done) | (simp; omega) | (have := HB.out.size; simp at *; omega)) _ | with_reducible refine Below.setCell ?_ (by first | exact Nat.le_refl _ | with_reducible exact HB.out.size | omega | (simp; done) | (simp; omega) | (have := HB.out.size; simp at *; omega)) _)) b)
            have HR := Lib.hid (Rd.below (by repeat (first | with_reducible exact HR.out | with_reducible apply Rd.drewN | with_reducible apply Rd.drew | with_reducible apply Rd.alloc)) b)
            have K2 : Hid (GBox _ (w.heap.size) (⟨27, s, nx, .slice p n c, .slice ps ns cs, .slice pw nw cw⟩)) := Lib.hid (GBox.below (by repeat (first | with_reducible exact K2.out | with_reducible apply GBox.drewN | with_reducible apply GBox.drew | (with_reducible refine GBox.newAt ?_ ?_ <;> first | (simp; done) | rfl) | with_reducible apply GBox.alloc)) b)
            have K3 : Hid (CBox _ (w.heap.size + 1) (⟨45, cl⟩)) := Lib.hid (CBox.below (by repeat (first | with_reducible exact K3.out | with_reducible apply CBox.drewN | with_reducible apply CBox.drew | (with_reducible refine CBox.newAt ?_ ?_ <;> first | (simp; done) | rfl) | with_reducible apply CBox.alloc)) b)
            try clear k2a k2b k2c k2d k2e k2z
            have k2z := K2.out.lt
            obtain ⟨k2a, k2b, k2c, k2d, k2e⟩ := K2.out.cell
            try clear k3a k3b k3c k3d k3z
            have k3z := K3.out.lt
            obtain ⟨k3a, k3b, k3c, k3d⟩ := K3.out.cell
            clear b
            go_wp2_with fail
            refine ((HPl.out _)).mono ?_
            rintro e w1 ⟨rfl, b⟩
            have Sw1 := Lib.hid b.size
            have HB := Lib.hid (chain0 (w := w) (by repeat (first | with_reducible exact Below.refl _ _ | with_reducible exact HB.out | with_reducible apply Below.drew | with_reducible apply bdN | with_reducible refine Below.alloc ?_ (by first | exact Nat.le_refl _ | with_reducible exact HB.out.size | omega | (simp; done) | (simp; omega) | (have := HB.out.size; simp at *; omega)) _ | with_reducible refine Below.setCell ?_ (by first | exact Nat.le_refl _ | with_reducible exact HB.out.size | omega | (simp; done) | (simp; omega) | (have := HB.out.size; simp at *; omega)) _)) b)
            have HR := Lib.hid (Rd.below (by repeat (first | with_reducible exact HR.out | with_reducible apply Rd.drewN | with_reducible apply Rd.drew | with_reducible apply Rd.alloc)) b)
            have K2 : Hid (GBox _ (w.heap.size) (⟨27, s, nx, .slice p n c, .slice ps ns cs, .slice pw nw cw⟩)) := Lib.hid (GBox.below (by repeat (first | with_reducible exact K2.out | with_reducible apply GBox.drewN | with_reducible apply GBox.drew | (with_reducible refine GBox.newAt ?_ ?_ <;> first | (simp; done) | rfl) | with_reducible apply GBox.alloc)) b)
            have K3 : Hid (CBox _ (w.heap.size + 1) (⟨45, cl⟩)) := Lib.hid (CBox.below (by repeat (first | with_reducible exact K3.out | with_reducible apply CBox.drewN | with_reducible apply CBox.drew | (with_reducible refine CBox.newAt ?_ ?_ <;> first | (simp; done) | rfl) | with_reducible apply CBox.alloc)) b)
            try clear k2a k2b k2c k2d k2e k2z
            have k2z := K2.out.lt
            obtain ⟨k2a, k2b, k2c, k2d, k2e⟩ := K2.out.cell
            try clear k3a k3b k3c k3d k3z
            have k3z := K3.out.lt
            obtain ⟨k3a, k3b, k3c, k3d⟩ := K3.out.cell
            clear b
            go_wp2_with fail
            refine ((HLi.out _ HR.out)).mono ?_
            rintro e w2 ⟨rfl, b⟩
            have Sw2 := Lib.hid b.size
            have HB := Lib.hid (chain0 (w := w) (by repeat (first | with_reducible exact Below.refl _ _ | with_reducible exact HB.out | with_reducible apply Below.drew | with_reducible apply bdN | with_reducible refine Below.alloc ?_ (by first | exact Nat.le_refl _ | with_reducible exact HB.out.size | omega | (simp; done) | (simp; omega) | (have := HB.out.size; simp at *; omega)) _ | with_reducible refine Below.setCell ?_ (by first | exact Nat.le_refl _ | with_reducible exact HB.out.size | omega | (simp; done) | (simp; omega) | (have := HB.out.size; simp at *; omega)) _)) b)
            have HR := Lib.hid (Rd.below (by repeat (first | with_reducible exact HR.out | with_reducible apply Rd.drewN | with_reducible apply Rd.drew | with_reducible apply Rd.alloc)) b)
            have K2 : Hid (GBox _ (w.heap.size) (⟨27, s, nx, .slice p n c, .slice ps ns cs, .slice pw nw cw⟩)) := Lib.hid (GBox.below (by repeat (first | with_reducible exact K2.out | with_reducible apply GBox.drewN | with_reducible apply GBox.drew | (with_reducible refine GBox.newAt ?_ ?_ <;> first | (simp; done) | rfl) | with_reducible apply GBox.alloc)) b)
            have K3 : Hid (CBox _ (w.heap.size + 1) (⟨45, cl⟩)) := Lib.hid (CBox.below (by repeat (first | with_reducible exact K3.out | with_reducible apply CBox.drewN | with_reducible apply CBox.drew | (with_reducible refine CBox.newAt ?_ ?_ <;> first | (simp; done) | rfl) | with_reducible apply CBox.alloc)) b)
            try clear k2a k2b k2c k2d k2e k2z
            have k2z := K2.out.lt
            obtain ⟨k2a, k2b, k2c, k2d, k2e⟩ := K2.out.cell
            try clear k3a k3b k3c k3d k3z
            have k3z := K3.out.lt
            obtain ⟨k3a, k3b, k3c, k3d⟩ := K3.out.cell
            clear b
            go_wp2_with fail
            refine wp_loop_rounds 4 ?_
            rw [rounds_succ]
            go_wp2_with fail
            have qk2a := fun d os => cell_regrown k2a d os
            have qk2b := fun d os => cell_regrown k2b d os
            have qk2c := fun d os => cell_regrown k2c d os
            have qk2d := fun d os => cell_regrown k2d d os
            have qk2e := fun d os => cell_regrown k2e d os
            have qk3a := fun d os => cell_regrown k3a d os
            have qk3b := fun d os => cell_regrown k3b d os
            have qk3c := fun d os => cell_regrown k3c d os
            have qk3d := fun d os => cell_regrown k3d d os
            refine wp_region_quiet_below (by kernel_rfl) (by kernel_rfl) ?_
            repeat (first | go_big_quiet_step ((go_at_call 54; first | with_reducible exact Calls.regrown_of (HC0.out _))) | quiet_step ((go_at_call 54; first | with_reducible exact Calls.regrown_of (HC0.out _))))
            refine wpQuiet_nil ?_
            intro v0 hw2
            have b : Below w2.heap.size w2 v0 := by obtain ⟨r, hr⟩ := hw2; rw [hr]; exact below_regrown _ _ _
            clear hw2 qk2a qk2b qk2c qk3a qk3b qk3c
            have Sv0 := Lib.hid b.size
            have HB := Lib.hid (chain0 (w := w) (by repeat (first | with_reducible exact Below.refl _ _ | with_reducible exact HB.out | with_reducible apply Below.drew | with_reducible apply bdN | with_reducible refine Below.alloc ?_ (by first | exact Nat.le_refl _ | with_reducible exact HB.out.size | omega | (simp; done) | (simp; omega) | (have := HB.out.size; simp at *; omega)) _ | with_reducible refine Below.setCell ?_ (by first | exact Nat.le_refl _ | with_reducible exact HB.out.size | omega | (simp; done) | (simp; omega) | (have := HB.out.size; simp at *; omega)) _)) b)
            have HR := Lib.hid (Rd.below (by repeat (first | with_reducible exact HR.out | with_reducible apply Rd.drewN | with_reducible apply Rd.drew | with_reducible apply Rd.alloc)) b)
            have K2 : Hid (GBox _ (w.heap.size) (⟨27, s, nx, .slice p n c, .slice ps ns cs, .slice pw nw cw⟩)) := Lib.hid (GBox.below (by repeat (first | with_reducible exact K2.out | with_reducible apply GBox.drewN | with_reducible apply GBox.drew | (with_reducible refine GBox.newAt ?_ ?_ <;> first | (simp; done) | rfl) | with_reducible apply GBox.alloc)) b)
            have K3 : Hid (CBox _ (w.heap.size + 1) (⟨45, cl⟩)) := Lib.hid (CBox.below (by repeat (first | with_reducible exact K3.out | with_reducible apply CBox.drewN | with_reducible apply CBox.drew | (with_reducible refine CBox.newAt ?_ ?_ <;> first | (simp; done) | rfl) | with_reducible apply CBox.alloc)) b)
            try clear k2a k2b k2c k2d k2e k2z
            have k2z := K2.out.lt
            obtain ⟨k2a, k2b, k2c, k2d, k2e⟩ := K2.out.cell
            try clear k3a k3b k3c k3d k3z
            have k3z := K3.out.lt
            obtain ⟨k3a, k3b, k3c, k3d⟩ := K3.out.cell
            clear b
            go_wp2_with fail
            rw [rounds_succ]
            go_wp2_with fail
            have qk2a := fun d os => cell_regrown k2a d os
            have qk2b := fun d os => cell_regrown k2b d os
            have qk2c := fun d os => cell_regrown k2c d os
            have qk2d := fun d os => cell_regrown k2d d os
            have qk2e := fun d os => cell_regrown k2e d os
            have qk3a := fun d os => cell_regrown k3a d os
            have qk3b := fun d os => cell_regrown k3b d os
            have qk3c := fun d os => cell_regrown k3c d os
            have qk3d := fun d os => cell_regrown k3d d os
            refine wp_region_quiet_below (by kernel_rfl) (by kernel_rfl) ?_
            repeat (first | go_big_quiet_step ((go_at_call 54; first | with_reducible exact Calls.regrown_of (HC0.out _) | with_reducible exact Calls.regrown_of (HC1.out _))) | quiet_step ((go_at_call 54; first | with_reducible exact Calls.regrown_of (HC0.out _) | with_reducible exact Calls.regrown_of (HC1.out _))))
            refine wpQuiet_nil ?_
            intro v1 hw2
            have b : Below v0.heap.size v0 v1 := by obtain ⟨r, hr⟩ := hw2; rw [hr]; exact below_regrown _ _ _
            clear hw2 qk2a qk2b qk2c qk3a qk3b qk3c
            have Sv1 := Lib.hid b.size
            have HB := Lib.hid (chain0 (w := w) (by repeat (first | with_reducible exact Below.refl _ _ | with_reducible exact HB.out | with_reducible apply Below.drew | with_reducible apply bdN | with_reducible refine Below.alloc ?_ (by first | exact Nat.le_refl _ | with_reducible exact HB.out.size | omega | (simp; done) | (simp; omega) | (have := HB.out.size; simp at *; omega)) _ | with_reducible refine Below.setCell ?_ (by first | exact Nat.le_refl _ | with_reducible exact HB.out.size | omega | (simp; done) | (simp; omega) | (have := HB.out.size; simp at *; omega)) _)) b)
            have HR := Lib.hid (Rd.below (by repeat (first | with_reducible exact HR.out | with_reducible apply Rd.drewN | with_reducible apply Rd.drew | with_reducible apply Rd.alloc)) b)
            have K2 : Hid (GBox _ (w.heap.size) (⟨27, s, nx, .slice p n c, .slice ps ns cs, .slice pw nw cw⟩)) := Lib.hid (GBox.below (by repeat (first | with_reducible exact K2.out | with_reducible apply GBox.drewN | with_reducible apply GBox.drew | (with_reducible refine GBox.newAt ?_ ?_ <;> first | (simp; done) | rfl) | with_reducible apply GBox.alloc)) b)
            have K3 : Hid (CBox _ (w.heap.size + 1) (⟨45, cl⟩)) := Lib.hid (CBox.below (by repeat (first | with_reducible exact K3.out | with_reducible apply CBox.drewN | with_reducible apply CBox.drew | (with_reducible refine CBox.newAt ?_ ?_ <;> first | (simp; done) | rfl) | with_reducible apply CBox.alloc)) b)
            try clear k2a k2b k2c k2d k2e k2z
            have k2z := K2.out.lt
            obtain ⟨k2a, k2b, k2c, k2d, k2e⟩ := K2.out.cell
            try clear k3a k3b k3c k3d k3z
            have k3z := K3.out.lt
            obtain ⟨k3a, k3b, k3c, k3d⟩ := K3.out.cell
            clear b
            go_wp2_with fail
            go_ret
            exact ⟨rfl, by repeat (first | with_reducible exact Below.refl _ _ | with_reducible exact HB.out | with_reducible apply Below.drew | with_reducible apply bdN | with_reducible refine Below.alloc ?_ (by first | exact Nat.le_refl _ | with_reducible exact HB.out.size | omega | (simp; done) | (simp; omega) | (have := HB.out.size; simp at *; omega)) _ | with_reducible refine Below.setCell ?_ (by first | exact Nat.le_refl _ | with_reducible exact HB.out.size | omega | (simp; done) | (simp; omega) | (have := HB.out.size; simp at *; omega)) _)⟩
        · skip
          have HC0 := Lib.hid (show ∀ w, Calls Try.prog 54 #[.int .i64 cl.b, .int .i64 0, .int .i64 ((n : Int) - 1)] w fun e w' => e = .returned (.bool true) ∧ Below w.heap.size w w' from fun w => by have h := l1_in cl.b 0 ((n : Int) - 1) w; rwa [decide_eq_true hi0] at h)
          have HC1 := Lib.hid (show ∀ w, Calls Try.prog 54 #[.int .i64 cl.c, .int .i64 0, .int .i64 ((n : Int) - 1)] w fun e w' => e = .returned (.bool false) ∧ Below w.heap.size w w' from fun w => by have h := l1_in cl.c 0 ((n : Int) - 1) w; rwa [decide_eq_false hi1] at h)
          have HT := Lib.hid (kind_i (l := l) HRn.out (by rw [H2.out]; unfold onT plc; rw [HN.out]; simp only [Bool.true_and]; exact decide_eq_false (by omega)))
          rw [HT.out]
          go_enter Try.func68, Try.ntmps68
          go_upto_region 1 with fail
          obtain ⟨w0, ew, b⟩ : ∃ wOPN : World, wOPN = ((w.alloc (Gv.obj ⟨27, s, nx, .slice p n c, .slice ps ns cs, .slice pw nw cw⟩)).alloc (Cv.obj ⟨45, cl⟩)) ∧ Below (((w.alloc (Gv.obj ⟨27, s, nx, .slice p n c, .slice ps ns cs, .slice pw nw cw⟩)).alloc (Cv.obj ⟨45, cl⟩))).heap.size (((w.alloc (Gv.obj ⟨27, s, nx, .slice p n c, .slice ps ns cs, .slice pw nw cw⟩)).alloc (Cv.obj ⟨45, cl⟩))) wOPN := ⟨_, rfl, Below.refl _ _⟩
          rw [← ew]
          clear ew
          have Sw0 := Lib.hid b.size
          have HB := Lib.hid (chain0 (w := w) (by repeat (first | with_reducible exact Below.refl _ _ | with_reducible exact HB.out | with_reducible apply Below.drew | with_reducible apply bdN | with_reducible refine Below.alloc ?_ (by first | exact Nat.le_refl _ | with_reducible exact HB.out.size | omega | (simp; done) | (simp; omega) | (have := HB.out.size; simp at *; omega)) _ | with_reducible refine Below.setCell ?_ (by first | exact Nat.le_refl _ | with_reducible exact HB.out.size | omega | (simp; done) | (simp; omega) | (have := HB.out.size; simp at *; omega)) _)) b)
          have HR := Lib.hid (Rd.below (by repeat (first | with_reducible exact HR.out | with_reducible apply Rd.drewN | with_reducible apply Rd.drew | with_reducible apply Rd.alloc)) b)
          have K2 : Hid (GBox _ (w.heap.size) (⟨27, s, nx, .slice p n c, .slice ps ns cs, .slice pw nw cw⟩)) := Lib.hid (GBox.below (by repeat (first | with_reducible exact K2.out | with_reducible apply GBox.drewN | with_reducible apply GBox.drew | (with_reducible refine GBox.newAt ?_ ?_ <;> first | (simp; done) | rfl) | with_reducible apply GBox.alloc)) b)
          have K3 : Hid (CBox _ (w.heap.size + 1) (⟨45, cl⟩)) := Lib.hid (CBox.below (by repeat (first | with_reducible exact K3.out | with_reducible apply CBox.drewN | with_reducible apply CBox.drew | (with_reducible refine CBox.newAt ?_ ?_ <;> first | (simp; done) | rfl) | with_reducible apply CBox.alloc)) b)
          try clear k2a k2b k2c k2d k2e k2z
          have k2z := K2.out.lt
          obtain ⟨k2a, k2b, k2c, k2d, k2e⟩ := K2.out.cell
          try clear k3a k3b k3c k3d k3z
          have k3z := K3.out.lt
          obtain ⟨k3a, k3b, k3c, k3d⟩ := K3.out.cell
          clear b
          go_wp2_with fail
          refine ((HPl.out _)).mono ?_
          rintro e w1 ⟨rfl, b⟩
          have Sw1 := Lib.hid b.size
          have HB := Lib.hid (chain0 (w := w) (by repeat (first | with_reducible exact Below.refl _ _ | with_reducible exact HB.out | with_reducible apply Below.drew | with_reducible apply bdN | with_reducible refine Below.alloc ?_ (by first | exact Nat.le_refl _ | with_reducible exact HB.out.size | omega | (simp; done) | (simp; omega) | (have := HB.out.size; simp at *; omega)) _ | with_reducible refine Below.setCell ?_ (by first | exact Nat.le_refl _ | with_reducible exact HB.out.size | omega | (simp; done) | (simp; omega) | (have := HB.out.size; simp at *; omega)) _)) b)
          have HR := Lib.hid (Rd.below (by repeat (first | with_reducible exact HR.out | with_reducible apply Rd.drewN | with_reducible apply Rd.drew | with_reducible apply Rd.alloc)) b)
          have K2 : Hid (GBox _ (w.heap.size) (⟨27, s, nx, .slice p n c, .slice ps ns cs, .slice pw nw cw⟩)) := Lib.hid (GBox.below (by repeat (first | with_reducible exact K2.out | with_reducible apply GBox.drewN | with_reducible apply GBox.drew | (with_reducible refine GBox.newAt ?_ ?_ <;> first | (simp; done) | rfl) | with_reducible apply GBox.alloc)) b)
          have K3 : Hid (CBox _ (w.heap.size + 1) (⟨45, cl⟩)) := Lib.hid (CBox.below (by repeat (first | with_reducible exact K3.out | with_reducible apply CBox.drewN | with_reducible apply CBox.drew | (with_reducible refine CBox.newAt ?_ ?_ <;> first | (simp; done) | rfl) | with_reducible apply CBox.alloc)) b)
          try clear k2a k2b k2c k2d k2e k2z
          have k2z := K2.out.lt
          obtain ⟨k2a, k2b, k2c, k2d, k2e⟩ := K2.out.cell
          try clear k3a k3b k3c k3d k3z
          have k3z := K3.out.lt
          obtain ⟨k3a, k3b, k3c, k3d⟩ := K3.out.cell
          clear b
          go_wp2_with fail
          refine ((HLi.out _ HR.out)).mono ?_
          rintro e w2 ⟨rfl, b⟩
          have Sw2 := Lib.hid b.size
          have HB := Lib.hid (chain0 (w := w) (by repeat (first | with_reducible exact Below.refl _ _ | with_reducible exact HB.out | with_reducible apply Below.drew | with_reducible apply bdN | with_reducible refine Below.alloc ?_ (by first | exact Nat.le_refl _ | with_reducible exact HB.out.size | omega | (simp; done) | (simp; omega) | (have := HB.out.size; simp at *; omega)) _ | with_reducible refine Below.setCell ?_ (by first | exact Nat.le_refl _ | with_reducible exact HB.out.size | omega | (simp; done) | (simp; omega) | (have := HB.out.size; simp at *; omega)) _)) b)
          have HR := Lib.hid (Rd.below (by repeat (first | with_reducible exact HR.out | with_reducible apply Rd.drewN | with_reducible apply Rd.drew | with_reducible apply Rd.alloc)) b)
          have K2 : Hid (GBox _ (w.heap.size) (⟨27, s, nx, .slice p n c, .slice ps ns cs, .slice pw nw cw⟩)) := Lib.hid (GBox.below (by repeat (first | with_reducible exact K2.out | with_reducible apply GBox.drewN | with_reducible apply GBox.drew | (with_reducible refine GBox.newAt ?_ ?_ <;> first | (simp; done) | rfl) | with_reducible apply GBox.alloc)) b)
          have K3 : Hid (CBox _ (w.heap.size + 1) (⟨45, cl⟩)) := Lib.hid (CBox.below (by repeat (first | with_reducible exact K3.out | with_reducible apply CBox.drewN | with_reducible apply CBox.drew | (with_reducible refine CBox.newAt ?_ ?_ <;> first | (simp; done) | rfl) | with_reducible apply CBox.alloc)) b)
          try clear k2a k2b k2c k2d k2e k2z
          have k2z := K2.out.lt
          obtain ⟨k2a, k2b, k2c, k2d, k2e⟩ := K2.out.cell
          try clear k3a k3b k3c k3d k3z
          have k3z := K3.out.lt
          obtain ⟨k3a, k3b, k3c, k3d⟩ := K3.out.cell
          clear b
          go_wp2_with fail
          refine wp_loop_rounds 4 ?_
          rw [rounds_succ]
          go_wp2_with fail
          have qk2a := fun d os => cell_regrown k2a d os
          have qk2b := fun d os => cell_regrown k2b d os
          have qk2c := fun d os => cell_regrown k2c d os
          have qk2d := fun d os => cell_regrown k2d d os
          have qk2e := fun d os => cell_regrown k2e d os
          have qk3a := fun d os => cell_regrown k3a d os
          have qk3b := fun d os => cell_regrown k3b d os
          have qk3c := fun d os => cell_regrown k3c d os
          have qk3d := fun d os => cell_regrown k3d d os
          refine wp_region_quiet_below (by kernel_rfl) (by kernel_rfl) ?_
          repeat (first | go_big_quiet_step ((go_at_call 54; first | with_reducible exact Calls.regrown_of (HC0.out _))) | quiet_step ((go_at_call 54; first | with_reducible exact Calls.regrown_of (HC0.out _))))
          refine wpQuiet_nil ?_
          intro v0 hw2
          have b : Below w2.heap.size w2 v0 := by obtain ⟨r, hr⟩ := hw2; rw [hr]; exact below_regrown _ _ _
          clear hw2 qk2a qk2b qk2c qk3a qk3b qk3c
          have Sv0 := Lib.hid b.size
          have HB := Lib.hid (chain0 (w := w) (by repeat (first | with_reducible exact Below.refl _ _ | with_reducible exact HB.out | with_reducible apply Below.drew | with_reducible apply bdN | with_reducible refine Below.alloc ?_ (by first | exact Nat.le_refl _ | with_reducible exact HB.out.size | omega | (simp; done) | (simp; omega) | (have := HB.out.size; simp at *; omega)) _ | with_reducible refine Below.setCell ?_ (by first | exact Nat.le_refl _ | with_reducible exact HB.out.size | omega | (simp; done) | (simp; omega) | (have := HB.out.size; simp at *; omega)) _)) b)
          have HR := Lib.hid (Rd.below (by repeat (first | with_reducible exact HR.out | with_reducible apply Rd.drewN | with_reducible apply Rd.drew | with_reducible apply Rd.alloc)) b)
          have K2 : Hid (GBox _ (w.heap.size) (⟨27, s, nx, .slice p n c, .slice ps ns cs, .slice pw nw cw⟩)) := Lib.hid (GBox.below (by repeat (first | with_reducible exact K2.out | with_reducible apply GBox.drewN | with_reducible apply GBox.drew | (with_reducible refine GBox.newAt ?_ ?_ <;> first | (simp; done) | rfl) | with_reducible apply GBox.alloc)) b)
          have K3 : Hid (CBox _ (w.heap.size + 1) (⟨45, cl⟩)) := Lib.hid (CBox.below (by repeat (first | with_reducible exact K3.out | with_reducible apply CBox.drewN | with_reducible apply CBox.drew | (with_reducible refine CBox.newAt ?_ ?_ <;> first | (simp; done) | rfl) | with_reducible apply CBox.alloc)) b)
          try clear k2a k2b k2c k2d k2e k2z
          have k2z := K2.out.lt
          obtain ⟨k2a, k2b, k2c, k2d, k2e⟩ := K2.out.cell
          try clear k3a k3b k3c k3d k3z
          have k3z := K3.out.lt
          obtain ⟨k3a, k3b, k3c, k3d⟩ := K3.out.cell
          clear b
          go_wp2_with fail
          rw [rounds_succ]
          go_wp2_with fail
          have qk2a := fun d os => cell_regrown k2a d os
          have qk2b := fun d os => cell_regrown k2b d os
          have qk2c := fun d os => cell_regrown k2c d os
          have qk2d := fun d os => cell_regrown k2d d os
          have qk2e := fun d os => cell_regrown k2e d os
          have qk3a := fun d os => cell_regrown k3a d os
          have qk3b := fun d os => cell_regrown k3b d os
          have qk3c := fun d os => cell_regrown k3c d os
          have qk3d := fun d os => cell_regrown k3d d os
          refine wp_region_quiet_below (by kernel_rfl) (by kernel_rfl) ?_
          repeat (first | go_big_quiet_step ((go_at_call 54; first | with_reducible exact Calls.regrown_of (HC0.out _) | with_reducible exact Calls.regrown_of (HC1.out _))) | quiet_step ((go_at_call 54; first | with_reducible exact Calls.regrown_of (HC0.out _) | with_reducible exact Calls.regrown_of (HC1.out _))))
          refine wpQuiet_nil ?_
          intro v1 hw2
          have b : Below v0.heap.size v0 v1 := by obtain ⟨r, hr⟩ := hw2; rw [hr]; exact below_regrown _ _ _
          clear hw2 qk2a qk2b qk2c qk3a qk3b qk3c
          have Sv1 := Lib.hid b.size
          have HB := Lib.hid (chain0 (w := w) (by repeat (first | with_reducible exact Below.refl _ _ | with_reducible exact HB.out | with_reducible apply Below.drew | with_reducible apply bdN | with_reducible refine Below.alloc ?_ (by first | exact Nat.le_refl _ | with_reducible exact HB.out.size | omega | (simp; done) | (simp; omega) | (have := HB.out.size; simp at *; omega)) _ | with_reducible refine Below.setCell ?_ (by first | exact Nat.le_refl _ | with_reducible exact HB.out.size | omega | (simp; done) | (simp; omega) | (have := HB.out.size; simp at *; omega)) _)) b)
          have HR := Lib.hid (Rd.below (by repeat (first | with_reducible exact HR.out | with_reducible apply Rd.drewN | with_reducible apply Rd.drew | with_reducible apply Rd.alloc)) b)
          have K2 : Hid (GBox _ (w.heap.size) (⟨27, s, nx, .slice p n c, .slice ps ns cs, .slice pw nw cw⟩)) := Lib.hid (GBox.below (by repeat (first | with_reducible exact K2.out | with_reducible apply GBox.drewN | with_reducible apply GBox.drew | (with_reducible refine GBox.newAt ?_ ?_ <;> first | (simp; done) | rfl) | with_reducible apply GBox.alloc)) b)
          have K3 : Hid (CBox _ (w.heap.size + 1) (⟨45, cl⟩)) := Lib.hid (CBox.below (by repeat (first | with_reducible exact K3.out | with_reducible apply CBox.drewN | with_reducible apply CBox.drew | (with_reducible refine CBox.newAt ?_ ?_ <;> first | (simp; done) | rfl) | with_reducible apply CBox.alloc)) b)
          try clear k2a k2b k2c k2d k2e k2z
          have k2z := K2.out.lt
          obtain ⟨k2a, k2b, k2c, k2d, k2e⟩ := K2.out.cell
          try clear k3a k3b k3c k3d k3z
          have k3z := K3.out.lt
          obtain ⟨k3a, k3b, k3c, k3d⟩ := K3.out.cell
          clear b
          go_wp2_with fail
          go_ret
          exact ⟨rfl, by repeat (first | with_reducible exact Below.refl _ _ | with_reducible exact HB.out | with_reducible apply Below.drew | with_reducible apply bdN | with_reducible refine Below.alloc ?_ (by first | exact Nat.le_refl _ | with_reducible exact HB.out.size | omega | (simp; done) | (simp; omega) | (have := HB.out.size; simp at *; omega)) _ | with_reducible refine Below.setCell ?_ (by first | exact Nat.le_refl _ | with_reducible exact HB.out.size | omega | (simp; done) | (simp; omega) | (have := HB.out.size; simp at *; omega)) _)⟩
      · skip
        have HC0 := Lib.hid (show ∀ w, Calls Try.prog 54 #[.int .i64 cl.b, .int .i64 0, .int .i64 ((n : Int) - 1)] w fun e w' => e = .returned (.bool false) ∧ Below w.heap.size w w' from fun w => by have h := l1_in cl.b 0 ((n : Int) - 1) w; rwa [decide_eq_false hi0] at h)
        have HT := Lib.hid (kind_i (l := l) HRn.out (by rw [H2.out]; unfold onT plc; rw [HN.out]; simp only [Bool.true_and]; exact decide_eq_false (by omega)))
        rw [HT.out]
        go_enter Try.func68, Try.ntmps68
        go_upto_region 1 with fail
        obtain ⟨w0, ew, b⟩ : ∃ wOPN : World, wOPN = ((w.alloc (Gv.obj ⟨27, s, nx, .slice p n c, .slice ps ns cs, .slice pw nw cw⟩)).alloc (Cv.obj ⟨45, cl⟩)) ∧ Below (((w.alloc (Gv.obj ⟨27, s, nx, .slice p n c, .slice ps ns cs, .slice pw nw cw⟩)).alloc (Cv.obj ⟨45, cl⟩))).heap.size (((w.alloc (Gv.obj ⟨27, s, nx, .slice p n c, .slice ps ns cs, .slice pw nw cw⟩)).alloc (Cv.obj ⟨45, cl⟩))) wOPN := ⟨_, rfl, Below.refl _ _⟩
        rw [← ew]
        clear ew
        have Sw0 := Lib.hid b.size
        have HB := Lib.hid (chain0 (w := w) (by repeat (first | with_reducible exact Below.refl _ _ | with_reducible exact HB.out | with_reducible apply Below.drew | with_reducible apply bdN | with_reducible refine Below.alloc ?_ (by first | exact Nat.le_refl _ | with_reducible exact HB.out.size | omega | (simp; done) | (simp; omega) | (have := HB.out.size; simp at *; omega)) _ | with_reducible refine Below.setCell ?_ (by first | exact Nat.le_refl _ | with_reducible exact HB.out.size | omega | (simp; done) | (simp; omega) | (have := HB.out.size; simp at *; omega)) _)) b)
        have HR := Lib.hid (Rd.below (by repeat (first | with_reducible exact HR.out | with_reducible apply Rd.drewN | with_reducible apply Rd.drew | with_reducible apply Rd.alloc)) b)
        have K2 : Hid (GBox _ (w.heap.size) (⟨27, s, nx, .slice p n c, .slice ps ns cs, .slice pw nw cw⟩)) := Lib.hid (GBox.below (by repeat (first | with_reducible exact K2.out | with_reducible apply GBox.drewN | with_reducible apply GBox.drew | (with_reducible refine GBox.newAt ?_ ?_ <;> first | (simp; done) | rfl) | with_reducible apply GBox.alloc)) b)
        have K3 : Hid (CBox _ (w.heap.size + 1) (⟨45, cl⟩)) := Lib.hid (CBox.below (by repeat (first | with_reducible exact K3.out | with_reducible apply CBox.drewN | with_reducible apply CBox.drew | (with_reducible refine CBox.newAt ?_ ?_ <;> first | (simp; done) | rfl) | with_reducible apply CBox.alloc)) b)
        try clear k2a k2b k2c k2d k2e k2z
        have k2z := K2.out.lt
        obtain ⟨k2a, k2b, k2c, k2d, k2e⟩ := K2.out.cell
        try clear k3a k3b k3c k3d k3z
        have k3z := K3.out.lt
        obtain ⟨k3a, k3b, k3c, k3d⟩ := K3.out.cell
        clear b
        go_wp2_with fail
        refine ((HPl.out _)).mono ?_
        rintro e w1 ⟨rfl, b⟩
        have Sw1 := Lib.hid b.size
        have HB := Lib.hid (chain0 (w := w) (by repeat (first | with_reducible exact Below.refl _ _ | with_reducible exact HB.out | with_reducible apply Below.drew | with_reducible apply bdN | with_reducible refine Below.alloc ?_ (by first | exact Nat.le_refl _ | with_reducible exact HB.out.size | omega | (simp; done) | (simp; omega) | (have := HB.out.size; simp at *; omega)) _ | with_reducible refine Below.setCell ?_ (by first | exact Nat.le_refl _ | with_reducible exact HB.out.size | omega | (simp; done) | (simp; omega) | (have := HB.out.size; simp at *; omega)) _)) b)
        have HR := Lib.hid (Rd.below (by repeat (first | with_reducible exact HR.out | with_reducible apply Rd.drewN | with_reducible apply Rd.drew | with_reducible apply Rd.alloc)) b)
        have K2 : Hid (GBox _ (w.heap.size) (⟨27, s, nx, .slice p n c, .slice ps ns cs, .slice pw nw cw⟩)) := Lib.hid (GBox.below (by repeat (first | with_reducible exact K2.out | with_reducible apply GBox.drewN | with_reducible apply GBox.drew | (with_reducible refine GBox.newAt ?_ ?_ <;> first | (simp; done) | rfl) | with_reducible apply GBox.alloc)) b)
        have K3 : Hid (CBox _ (w.heap.size + 1) (⟨45, cl⟩)) := Lib.hid (CBox.below (by repeat (first | with_reducible exact K3.out | with_reducible apply CBox.drewN | with_reducible apply CBox.drew | (with_reducible refine CBox.newAt ?_ ?_ <;> first | (simp; done) | rfl) | with_reducible apply CBox.alloc)) b)
        try clear k2a k2b k2c k2d k2e k2z
        have k2z := K2.out.lt
        obtain ⟨k2a, k2b, k2c, k2d, k2e⟩ := K2.out.cell
        try clear k3a k3b k3c k3d k3z
        have k3z := K3.out.lt
        obtain ⟨k3a, k3b, k3c, k3d⟩ := K3.out.cell
        clear b
        go_wp2_with fail
        refine ((HLi.out _ HR.out)).mono ?_
        rintro e w2 ⟨rfl, b⟩
        have Sw2 := Lib.hid b.size
        have HB := Lib.hid (chain0 (w := w) (by repeat (first | with_reducible exact Below.refl _ _ | with_reducible exact HB.out | with_reducible apply Below.drew | with_reducible apply bdN | with_reducible refine Below.alloc ?_ (by first | exact Nat.le_refl _ | with_reducible exact HB.out.size | omega | (simp; done) | (simp; omega) | (have := HB.out.size; simp at *; omega)) _ | with_reducible refine Below.setCell ?_ (by first | exact Nat.le_refl _ | with_reducible exact HB.out.size | omega | (simp; done) | (simp; omega) | (have := HB.out.size; simp at *; omega)) _)) b)
        have HR := Lib.hid (Rd.below (by repeat (first | with_reducible exact HR.out | with_reducible apply Rd.drewN | with_reducible apply Rd.drew | with_reducible apply Rd.alloc)) b)
        have K2 : Hid (GBox _ (w.heap.size) (⟨27, s, nx, .slice p n c, .slice ps ns cs, .slice pw nw cw⟩)) := Lib.hid (GBox.below (by repeat (first | with_reducible exact K2.out | with_reducible apply GBox.drewN | with_reducible apply GBox.drew | (with_reducible refine GBox.newAt ?_ ?_ <;> first | (simp; done) | rfl) | with_reducible apply GBox.alloc)) b)
        have K3 : Hid (CBox _ (w.heap.size + 1) (⟨45, cl⟩)) := Lib.hid (CBox.below (by repeat (first | with_reducible exact K3.out | with_reducible apply CBox.drewN | with_reducible apply CBox.drew | (with_reducible refine CBox.newAt ?_ ?_ <;> first | (simp; done) | rfl) | with_reducible apply CBox.alloc)) b)
        try clear k2a k2b k2c k2d k2e k2z
        have k2z := K2.out.lt
        obtain ⟨k2a, k2b, k2c, k2d, k2e⟩ := K2.out.cell
        try clear k3a k3b k3c k3d k3z
        have k3z := K3.out.lt
        obtain ⟨k3a, k3b, k3c, k3d⟩ := K3.out.cell
        clear b
        go_wp2_with fail
        refine wp_loop_rounds 4 ?_
        rw [rounds_succ]
        go_wp2_with fail
        have qk2a := fun d os => cell_regrown k2a d os
        have qk2b := fun d os => cell_regrown k2b d os
        have qk2c := fun d os => cell_regrown k2c d os
        have qk2d := fun d os => cell_regrown k2d d os
        have qk2e := fun d os => cell_regrown k2e d os
        have qk3a := fun d os => cell_regrown k3a d os
        have qk3b := fun d os => cell_regrown k3b d os
        have qk3c := fun d os => cell_regrown k3c d os
        have qk3d := fun d os => cell_regrown k3d d os
        refine wp_region_quiet_below (by kernel_rfl) (by kernel_rfl) ?_
        repeat (first | go_big_quiet_step ((go_at_call 54; first | with_reducible exact Calls.regrown_of (HC0.out _))) | quiet_step ((go_at_call 54; first | with_reducible exact Calls.regrown_of (HC0.out _))))
        refine wpQuiet_nil ?_
        intro v0 hw2
        have b : Below w2.heap.size w2 v0 := by obtain ⟨r, hr⟩ := hw2; rw [hr]; exact below_regrown _ _ _
        clear hw2 qk2a qk2b qk2c qk3a qk3b qk3c
        have Sv0 := Lib.hid b.size
        have HB := Lib.hid (chain0 (w := w) (by repeat (first | with_reducible exact Below.refl _ _ | with_reducible exact HB.out | with_reducible apply Below.drew | with_reducible apply bdN | with_reducible refine Below.alloc ?_ (by first | exact Nat.le_refl _ | with_reducible exact HB.out.size | omega | (simp; done) | (simp; omega) | (have := HB.out.size; simp at *; omega)) _ | with_reducible refine Below.setCell ?_ (by first | exact Nat.le_refl _ | with_reducible exact HB.out.size | omega | (simp; done) | (simp; omega) | (have := HB.out.size; simp at *; omega)) _)) b)
        have HR := Lib.hid (Rd.below (by repeat (first | with_reducible exact HR.out | with_reducible apply Rd.drewN | with_reducible apply Rd.drew | with_reducible apply Rd.alloc)) b)
        have K2 : Hid (GBox _ (w.heap.size) (⟨27, s, nx, .slice p n c, .slice ps ns cs, .slice pw nw cw⟩)) := Lib.hid (GBox.below (by repeat (first | with_reducible exact K2.out | with_reducible apply GBox.drewN | with_reducible apply GBox.drew | (with_reducible refine GBox.newAt ?_ ?_ <;> first | (simp; done) | rfl) | with_reducible apply GBox.alloc)) b)
        have K3 : Hid (CBox _ (w.heap.size + 1) (⟨45, cl⟩)) := Lib.hid (CBox.below (by repeat (first | with_reducible exact K3.out | with_reducible apply CBox.drewN | with_reducible apply CBox.drew | (with_reducible refine CBox.newAt ?_ ?_ <;> first | (simp; done) | rfl) | with_reducible apply CBox.alloc)) b)
        try clear k2a k2b k2c k2d k2e k2z
        have k2z := K2.out.lt
        obtain ⟨k2a, k2b, k2c, k2d, k2e⟩ := K2.out.cell
        try clear k3a k3b k3c k3d k3z
        have k3z := K3.out.lt
        obtain ⟨k3a, k3b, k3c, k3d⟩ := K3.out.cell
        clear b
        go_wp2_with fail
        go_ret
        exact ⟨rfl, by repeat (first | with_reducible exact Below.refl _ _ | with_reducible exact HB.out | with_reducible apply Below.drew | with_reducible apply bdN | with_reducible refine Below.alloc ?_ (by first | exact Nat.le_refl _ | with_reducible exact HB.out.size | omega | (simp; done) | (simp; omega) | (have := HB.out.size; simp at *; omega)) _ | with_reducible refine Below.setCell ?_ (by first | exact Nat.le_refl _ | with_reducible exact HB.out.size | omega | (simp; done) | (simp; omega) | (have := HB.out.size; simp at *; omega)) _)⟩
    · have HT := Lib.hid (kind_r ((right_p (l := l) H2.out).trans H1.out))
      rw [HT.out]
      go_enter Try.func68, Try.ntmps68
      go_upto_region 1 with fail
      obtain ⟨w0, ew, b⟩ : ∃ wOPN : World, wOPN = ((w.alloc (Gv.obj ⟨27, s, nx, .slice p n c, .slice ps ns cs, .slice pw nw cw⟩)).alloc (Cv.obj ⟨45, cl⟩)) ∧ Below (((w.alloc (Gv.obj ⟨27, s, nx, .slice p n c, .slice ps ns cs, .slice pw nw cw⟩)).alloc (Cv.obj ⟨45, cl⟩))).heap.size (((w.alloc (Gv.obj ⟨27, s, nx, .slice p n c, .slice ps ns cs, .slice pw nw cw⟩)).alloc (Cv.obj ⟨45, cl⟩))) wOPN := ⟨_, rfl, Below.refl _ _⟩
      rw [← ew]
      clear ew
      have Sw0 := Lib.hid b.size
      have HB := Lib.hid (chain0 (w := w) (by repeat (first | with_reducible exact Below.refl _ _ | with_reducible exact HB.out | with_reducible apply Below.drew | with_reducible apply bdN | with_reducible refine Below.alloc ?_ (by first | exact Nat.le_refl _ | with_reducible exact HB.out.size | omega | (simp; done) | (simp; omega) | (have := HB.out.size; simp at *; omega)) _ | with_reducible refine Below.setCell ?_ (by first | exact Nat.le_refl _ | with_reducible exact HB.out.size | omega | (simp; done) | (simp; omega) | (have := HB.out.size; simp at *; omega)) _)) b)
      have HR := Lib.hid (Rd.below (by repeat (first | with_reducible exact HR.out | with_reducible apply Rd.drewN | with_reducible apply Rd.drew | with_reducible apply Rd.alloc)) b)
      have K2 : Hid (GBox _ (w.heap.size) (⟨27, s, nx, .slice p n c, .slice ps ns cs, .slice pw nw cw⟩)) := Lib.hid (GBox.below (by repeat (first | with_reducible exact K2.out | with_reducible apply GBox.drewN | with_reducible apply GBox.drew | (with_reducible refine GBox.newAt ?_ ?_ <;> first | (simp; done) | rfl) | with_reducible apply GBox.alloc)) b)
      have K3 : Hid (CBox _ (w.heap.size + 1) (⟨45, cl⟩)) := Lib.hid (CBox.below (by repeat (first | with_reducible exact K3.out | with_reducible apply CBox.drewN | with_reducible apply CBox.drew | (with_reducible refine CBox.newAt ?_ ?_ <;> first | (simp; done) | rfl) | with_reducible apply CBox.alloc)) b)
      try clear k2a k2b k2c k2d k2e k2z
      have k2z := K2.out.lt
      obtain ⟨k2a, k2b, k2c, k2d, k2e⟩ := K2.out.cell
      try clear k3a k3b k3c k3d k3z
      have k3z := K3.out.lt
      obtain ⟨k3a, k3b, k3c, k3d⟩ := K3.out.cell
      clear b
      go_wp2_with fail
      refine ((HPl.out _)).mono ?_
      rintro e w1 ⟨rfl, b⟩
      have Sw1 := Lib.hid b.size
      have HB := Lib.hid (chain0 (w := w) (by repeat (first | with_reducible exact Below.refl _ _ | with_reducible exact HB.out | with_reducible apply Below.drew | with_reducible apply bdN | with_reducible refine Below.alloc ?_ (by first | exact Nat.le_refl _ | with_reducible exact HB.out.size | omega | (simp; done) | (simp; omega) | (have := HB.out.size; simp at *; omega)) _ | with_reducible refine Below.setCell ?_ (by first | exact Nat.le_refl _ | with_reducible exact HB.out.size | omega | (simp; done) | (simp; omega) | (have := HB.out.size; simp at *; omega)) _)) b)
      have HR := Lib.hid (Rd.below (by repeat (first | with_reducible exact HR.out | with_reducible apply Rd.drewN | with_reducible apply Rd.drew | with_reducible apply Rd.alloc)) b)
      have K2 : Hid (GBox _ (w.heap.size) (⟨27, s, nx, .slice p n c, .slice ps ns cs, .slice pw nw cw⟩)) := Lib.hid (GBox.below (by repeat (first | with_reducible exact K2.out | with_reducible apply GBox.drewN | with_reducible apply GBox.drew | (with_reducible refine GBox.newAt ?_ ?_ <;> first | (simp; done) | rfl) | with_reducible apply GBox.alloc)) b)
      have K3 : Hid (CBox _ (w.heap.size + 1) (⟨45, cl⟩)) := Lib.hid (CBox.below (by repeat (first | with_reducible exact K3.out | with_reducible apply CBox.drewN | with_reducible apply CBox.drew | (with_reducible refine CBox.newAt ?_ ?_ <;> first | (simp; done) | rfl) | with_reducible apply CBox.alloc)) b)
      try clear k2a k2b k2c k2d k2e k2z
      have k2z := K2.out.lt
      obtain ⟨k2a, k2b, k2c, k2d, k2e⟩ := K2.out.cell
      try clear k3a k3b k3c k3d k3z
      have k3z := K3.out.lt
      obtain ⟨k3a, k3b, k3c, k3d⟩ := K3.out.cell
      clear b
      go_wp2_with fail
      refine ((HLi.out _ HR.out)).mono ?_
      rintro e w2 ⟨rfl, b⟩
      have Sw2 := Lib.hid b.size
      have HB := Lib.hid (chain0 (w := w) (by repeat (first | with_reducible exact Below.refl _ _ | with_reducible exact HB.out | with_reducible apply Below.drew | with_reducible apply bdN | with_reducible refine Below.alloc ?_ (by first | exact Nat.le_refl _ | with_reducible exact HB.out.size | omega | (simp; done) | (simp; omega) | (have := HB.out.size; simp at *; omega)) _ | with_reducible refine Below.setCell ?_ (by first | exact Nat.le_refl _ | with_reducible exact HB.out.size | omega | (simp; done) | (simp; omega) | (have := HB.out.size; simp at *; omega)) _)) b)
      have HR := Lib.hid (Rd.below (by repeat (first | with_reducible exact HR.out | with_reducible apply Rd.drewN | with_reducible apply Rd.drew | with_reducible apply Rd.alloc)) b)
      have K2 : Hid (GBox _ (w.heap.size) (⟨27, s, nx, .slice p n c, .slice ps ns cs, .slice pw nw cw⟩)) := Lib.hid (GBox.below (by repeat (first | with_reducible exact K2.out | with_reducible apply GBox.drewN | with_reducible apply GBox.drew | (with_reducible refine GBox.newAt ?_ ?_ <;> first | (simp; done) | rfl) | with_reducible apply GBox.alloc)) b)
      have K3 : Hid (CBox _ (w.heap.size + 1) (⟨45, cl⟩)) := Lib.hid (CBox.below (by repeat (first | with_reducible exact K3.out | with_reducible apply CBox.drewN | with_reducible apply CBox.drew | (with_reducible refine CBox.newAt ?_ ?_ <;> first | (simp; done) | rfl) | with_reducible apply CBox.alloc)) b)
      try clear k2a k2b k2c k2d k2e k2z
      have k2z := K2.out.lt
      obtain ⟨k2a, k2b, k2c, k2d, k2e⟩ := K2.out.cell
      try clear k3a k3b k3c k3d k3z
      have k3z := K3.out.lt
      obtain ⟨k3a, k3b, k3c, k3d⟩ := K3.out.cell
      clear b
      go_wp2_with fail
      go_ret
      exact ⟨rfl, by repeat (first | with_reducible exact Below.refl _ _ | with_reducible exact HB.out | with_reducible apply Below.drew | with_reducible apply bdN | with_reducible refine Below.alloc ?_ (by first | exact Nat.le_refl _ | with_reducible exact HB.out.size | omega | (simp; done) | (simp; omega) | (have := HB.out.size; simp at *; omega)) _ | with_reducible refine Below.setCell ?_ (by first | exact Nat.le_refl _ | with_reducible exact HB.out.size | omega | (simp; done) | (simp; omega) | (have := HB.out.size; simp at *; omega)) _)⟩
end Go.Proofs.Yteccbcbijfcpmaa.game

/- IsGame, LinesAhead, PointsOf: the exported functions, the program's and the model's. -/
namespace Go.Proofs.Yteccbcbijfcpmaa.game
open Go.RowKit
open cards deal
set_option linter.unusedVariables false

set_option maxHeartbeats 1000000 in
theorem spec_isgame (g : Gm) (p ps pw : Option Addr) (n c ns cs nw cw : Nat) (w : World) (hf : FitG n c ns cs nw cw p ps pw g) (hr : RdG w p ps pw g.l g.sc g.wr) :
    Calls Try.prog 21 #[gval g.s g.nx (.slice p n c) (.slice ps ns cs) (.slice pw nw cw)] w fun e w' => e = .returned (.bool g.ok) ∧ Below w.heap.size w w' := by
  have HR := Lib.hid hr
  have HC := Lib.hid (fun w h => l8_game g p ps pw n c ns cs nw cw w hf h)
  obtain ⟨ok, hok⟩ : ∃ ok, g.ok = ok := ⟨_, rfl⟩
  rw [hok] at HC ⊢
  clear hf hr hok
  go_enter Try.func21, Try.ntmps21
  go_wp2_with fail
  refine ((HC.out _ (RdG.alloc HR.out _))).mono ?_
  rintro e w1 ⟨rfl, b⟩
  have Sw1 := Lib.hid b.size
  have HB := Lib.hid (chain0 (w := w) (by repeat (first | with_reducible exact Below.refl _ _ | with_reducible exact HB.out | with_reducible apply Below.drew | with_reducible apply bdN | with_reducible refine Below.alloc ?_ (by first | exact Nat.le_refl _ | with_reducible exact HB.out.size | omega | (simp; done) | (simp; omega) | (have := HB.out.size; simp at *; omega)) _ | with_reducible refine Below.setCell ?_ (by first | exact Nat.le_refl _ | with_reducible exact HB.out.size | omega | (simp; done) | (simp; omega) | (have := HB.out.size; simp at *; omega)) _)) b)
  have HR := Lib.hid (RdG.below (by repeat (first | with_reducible exact HR.out | with_reducible apply RdG.drewN | with_reducible apply RdG.drew | with_reducible apply RdG.alloc)) b)
  clear b
  go_wp2_with fail
  go_ret
  exact ⟨rfl, by repeat (first | with_reducible exact Below.refl _ _ | with_reducible exact HB.out | with_reducible apply Below.drew | with_reducible apply bdN | with_reducible refine Below.alloc ?_ (by first | exact Nat.le_refl _ | with_reducible exact HB.out.size | omega | (simp; done) | (simp; omega) | (have := HB.out.size; simp at *; omega)) _ | with_reducible refine Below.setCell ?_ (by first | exact Nat.le_refl _ | with_reducible exact HB.out.size | omega | (simp; done) | (simp; omega) | (have := HB.out.size; simp at *; omega)) _)⟩

/-! Lines ahead. -/
noncomputable def laR (g : Gm) : Int × Bool := if g.ok = true then (ahead g.d, true) else (0, false)
set_option maxRecDepth 100000 in
set_option maxHeartbeats 1000000 in
theorem impl_la (g : Gm) (p ps pw : Option Addr) (n c ns cs nw cw : Nat) (w : World) (hf : FitG n c ns cs nw cw p ps pw g) (hr : RdG w p ps pw g.l g.sc g.wr) :
    Calls Try.prog 44 #[gval g.s g.nx (.slice p n c) (.slice ps ns cs) (.slice pw nw cw)] w fun e w' => e = .returned (.tuple #[.int .i64 (laR g).1, .bool (laR g).2]) ∧ Below w.heap.size w w' := by
  have HR := Lib.hid hr
  have HF := Lib.hid hf
  have HC := Lib.hid (fun w h => is_game g p ps pw n c ns cs nw cw w hf h)
  clear hf hr
  cases hok : g.ok
  · have HT := Lib.hid (show laR g = (0, false) by unfold laR; rw [if_neg (by simp [hok])])
    rw [hok] at HC
    rw [HT.out]
    clear hok HT
    obtain ⟨s, nx, l, sc, wt⟩ := g
    simp only at HR HC ⊢
    go_enter Try.func44, Try.ntmps44
    go_wp2_with fail
    refine ((HC.out _ (RdG.alloc HR.out _))).mono ?_
    rintro e w1 ⟨rfl, b⟩
    have Sw1 := Lib.hid b.size
    have HB := Lib.hid (chain0 (w := w) (by repeat (first | with_reducible exact Below.refl _ _ | with_reducible exact HB.out | with_reducible apply Below.drew | with_reducible apply bdN | with_reducible refine Below.alloc ?_ (by first | exact Nat.le_refl _ | with_reducible exact HB.out.size | omega | (simp; done) | (simp; omega) | (have := HB.out.size; simp at *; omega)) _ | with_reducible refine Below.setCell ?_ (by first | exact Nat.le_refl _ | with_reducible exact HB.out.size | omega | (simp; done) | (simp; omega) | (have := HB.out.size; simp at *; omega)) _)) b)
    have HR := Lib.hid (RdG.below (by repeat (first | with_reducible exact HR.out | with_reducible apply RdG.drewN | with_reducible apply RdG.drew | with_reducible apply RdG.alloc)) b)
    have K1 : Hid (GBox _ (w.heap.size) (⟨27, s, nx, .slice p n c, .slice ps ns cs, .slice pw nw cw⟩)) := Lib.hid (GBox.below (by repeat (first | with_reducible exact K1.out | with_reducible apply GBox.drewN | with_reducible apply GBox.drew | (with_reducible refine GBox.newAt ?_ ?_ <;> first | (simp; done) | rfl) | with_reducible apply GBox.alloc)) b)
    try clear k1a k1b k1c k1d k1e k1z
    have k1z := K1.out.lt
    obtain ⟨k1a, k1b, k1c, k1d, k1e⟩ := K1.out.cell
    clear b
    go_wp2_with fail
    go_ret2
    exact ⟨rfl, by repeat (first | with_reducible exact Below.refl _ _ | with_reducible exact HB.out | with_reducible apply Below.drew | with_reducible apply bdN | with_reducible refine Below.alloc ?_ (by first | exact Nat.le_refl _ | with_reducible exact HB.out.size | omega | (simp; done) | (simp; omega) | (have := HB.out.size; simp at *; omega)) _ | with_reducible refine Below.setCell ?_ (by first | exact Nat.le_refl _ | with_reducible exact HB.out.size | omega | (simp; done) | (simp; omega) | (have := HB.out.size; simp at *; omega)) _)⟩
  · have HO := Lib.hid (Gm.ok_iff.1 hok)
    have HT := Lib.hid (show laR g = (((n : Int) + 81 - g.nx) / 3, true) by unfold laR; rw [if_pos hok]; unfold ahead Gm.d; simp only; rw [HF.out.hn])
    have hn : n ≤ 81 := by have h := HO.out.d.len81; have h2 := HF.out.hn; have h3 : g.l.length ≤ 81 := h; omega
    have hx := HO.out.d.2.1
    have hx1 : 0 ≤ g.nx := hx.1
    have hx2 : g.nx ≤ 81 := hx.2
    rw [hok] at HC
    rw [HT.out]
    clear hok HT hx
    obtain ⟨s, nx, l, sc, wt⟩ := g
    simp only at HR HC hx1 hx2 ⊢
    have HL := Lib.hid (fun w => lines_ahead s nx p n c w hn hx1 hx2)
    obtain ⟨v, hv⟩ : ∃ v, ((n : Int) + 81 - nx) / 3 = v := ⟨_, rfl⟩
    rw [hv] at HL ⊢
    clear hv
    go_enter Try.func44, Try.ntmps44
    go_wp2_with fail
    refine ((HC.out _ (RdG.alloc HR.out _))).mono ?_
    rintro e w1 ⟨rfl, b⟩
    have Sw1 := Lib.hid b.size
    have HB := Lib.hid (chain0 (w := w) (by repeat (first | with_reducible exact Below.refl _ _ | with_reducible exact HB.out | with_reducible apply Below.drew | with_reducible apply bdN | with_reducible refine Below.alloc ?_ (by first | exact Nat.le_refl _ | with_reducible exact HB.out.size | omega | (simp; done) | (simp; omega) | (have := HB.out.size; simp at *; omega)) _ | with_reducible refine Below.setCell ?_ (by first | exact Nat.le_refl _ | with_reducible exact HB.out.size | omega | (simp; done) | (simp; omega) | (have := HB.out.size; simp at *; omega)) _)) b)
    have HR := Lib.hid (RdG.below (by repeat (first | with_reducible exact HR.out | with_reducible apply RdG.drewN | with_reducible apply RdG.drew | with_reducible apply RdG.alloc)) b)
    have K1 : Hid (GBox _ (w.heap.size) (⟨27, s, nx, .slice p n c, .slice ps ns cs, .slice pw nw cw⟩)) := Lib.hid (GBox.below (by repeat (first | with_reducible exact K1.out | with_reducible apply GBox.drewN | with_reducible apply GBox.drew | (with_reducible refine GBox.newAt ?_ ?_ <;> first | (simp; done) | rfl) | with_reducible apply GBox.alloc)) b)
    try clear k1a k1b k1c k1d k1e k1z
    have k1z := K1.out.lt
    obtain ⟨k1a, k1b, k1c, k1d, k1e⟩ := K1.out.cell
    clear b
    go_wp2_with fail
    refine ((HL.out _)).mono ?_
    rintro e w2 ⟨rfl, b⟩
    have Sw2 := Lib.hid b.size
    have HB := Lib.hid (chain0 (w := w) (by repeat (first | with_reducible exact Below.refl _ _ | with_reducible exact HB.out | with_reducible apply Below.drew | with_reducible apply bdN | with_reducible refine Below.alloc ?_ (by first | exact Nat.le_refl _ | with_reducible exact HB.out.size | omega | (simp; done) | (simp; omega) | (have := HB.out.size; simp at *; omega)) _ | with_reducible refine Below.setCell ?_ (by first | exact Nat.le_refl _ | with_reducible exact HB.out.size | omega | (simp; done) | (simp; omega) | (have := HB.out.size; simp at *; omega)) _)) b)
    have HR := Lib.hid (RdG.below (by repeat (first | with_reducible exact HR.out | with_reducible apply RdG.drewN | with_reducible apply RdG.drew | with_reducible apply RdG.alloc)) b)
    have K1 : Hid (GBox _ (w.heap.size) (⟨27, s, nx, .slice p n c, .slice ps ns cs, .slice pw nw cw⟩)) := Lib.hid (GBox.below (by repeat (first | with_reducible exact K1.out | with_reducible apply GBox.drewN | with_reducible apply GBox.drew | (with_reducible refine GBox.newAt ?_ ?_ <;> first | (simp; done) | rfl) | with_reducible apply GBox.alloc)) b)
    try clear k1a k1b k1c k1d k1e k1z
    have k1z := K1.out.lt
    obtain ⟨k1a, k1b, k1c, k1d, k1e⟩ := K1.out.cell
    clear b
    go_wp2_with fail
    go_ret2
    exact ⟨rfl, by repeat (first | with_reducible exact Below.refl _ _ | with_reducible exact HB.out | with_reducible apply Below.drew | with_reducible apply bdN | with_reducible refine Below.alloc ?_ (by first | exact Nat.le_refl _ | with_reducible exact HB.out.size | omega | (simp; done) | (simp; omega) | (have := HB.out.size; simp at *; omega)) _ | with_reducible refine Below.setCell ?_ (by first | exact Nat.le_refl _ | with_reducible exact HB.out.size | omega | (simp; done) | (simp; omega) | (have := HB.out.size; simp at *; omega)) _)⟩
set_option maxRecDepth 100000 in
set_option maxHeartbeats 1000000 in
theorem spec_la (g : Gm) (p ps pw : Option Addr) (n c ns cs nw cw : Nat) (w : World) (hf : FitG n c ns cs nw cw p ps pw g) (hr : RdG w p ps pw g.l g.sc g.wr) :
    Calls Try.prog 43 #[gval g.s g.nx (.slice p n c) (.slice ps ns cs) (.slice pw nw cw)] w fun e w' => e = .returned (.tuple #[.int .i64 (laR g).1, .bool (laR g).2]) ∧ Below w.heap.size w w' := by
  have HR := Lib.hid hr
  have HF := Lib.hid hf
  have HC := Lib.hid (fun w h => l8_game g p ps pw n c ns cs nw cw w hf h)
  clear hf hr
  cases hok : g.ok
  · have HT := Lib.hid (show laR g = (0, false) by unfold laR; rw [if_neg (by simp [hok])])
    rw [hok] at HC
    rw [HT.out]
    clear hok HT
    obtain ⟨s, nx, l, sc, wt⟩ := g
    simp only at HR HC ⊢
    go_enter Try.func43, Try.ntmps43
    go_wp2_with fail
    refine ((HC.out _ (RdG.alloc HR.out _))).mono ?_
    rintro e w1 ⟨rfl, b⟩
    have Sw1 := Lib.hid b.size
    have HB := Lib.hid (chain0 (w := w) (by repeat (first | with_reducible exact Below.refl _ _ | with_reducible exact HB.out | with_reducible apply Below.drew | with_reducible apply bdN | with_reducible refine Below.alloc ?_ (by first | exact Nat.le_refl _ | with_reducible exact HB.out.size | omega | (simp; done) | (simp; omega) | (have := HB.out.size; simp at *; omega)) _ | with_reducible refine Below.setCell ?_ (by first | exact Nat.le_refl _ | with_reducible exact HB.out.size | omega | (simp; done) | (simp; omega) | (have := HB.out.size; simp at *; omega)) _)) b)
    have HR := Lib.hid (RdG.below (by repeat (first | with_reducible exact HR.out | with_reducible apply RdG.drewN | with_reducible apply RdG.drew | with_reducible apply RdG.alloc)) b)
    have K1 : Hid (GBox _ (w.heap.size) (⟨27, s, nx, .slice p n c, .slice ps ns cs, .slice pw nw cw⟩)) := Lib.hid (GBox.below (by repeat (first | with_reducible exact K1.out | with_reducible apply GBox.drewN | with_reducible apply GBox.drew | (with_reducible refine GBox.newAt ?_ ?_ <;> first | (simp; done) | rfl) | with_reducible apply GBox.alloc)) b)
    try clear k1a k1b k1c k1d k1e k1z
    have k1z := K1.out.lt
    obtain ⟨k1a, k1b, k1c, k1d, k1e⟩ := K1.out.cell
    clear b
    go_wp2_with fail
    go_ret2
    exact ⟨rfl, by repeat (first | with_reducible exact Below.refl _ _ | with_reducible exact HB.out | with_reducible apply Below.drew | with_reducible apply bdN | with_reducible refine Below.alloc ?_ (by first | exact Nat.le_refl _ | with_reducible exact HB.out.size | omega | (simp; done) | (simp; omega) | (have := HB.out.size; simp at *; omega)) _ | with_reducible refine Below.setCell ?_ (by first | exact Nat.le_refl _ | with_reducible exact HB.out.size | omega | (simp; done) | (simp; omega) | (have := HB.out.size; simp at *; omega)) _)⟩
  · have HO := Lib.hid (Gm.ok_iff.1 hok)
    have HT := Lib.hid (show laR g = (((n : Int) + 81 - g.nx) / 3, true) by unfold laR; rw [if_pos hok]; unfold ahead Gm.d; simp only; rw [HF.out.hn])
    have hn : n ≤ 81 := by have h := HO.out.d.len81; have h2 := HF.out.hn; have h3 : g.l.length ≤ 81 := h; omega
    have hx := HO.out.d.2.1
    have hx1 : 0 ≤ g.nx := hx.1
    have hx2 : g.nx ≤ 81 := hx.2
    rw [hok] at HC
    rw [HT.out]
    clear hok HT hx
    obtain ⟨s, nx, l, sc, wt⟩ := g
    simp only at HR HC hx1 hx2 ⊢
    have HL := Lib.hid (fun w => l8_ahead s nx p ps pw n c ns cs nw cw w hn hx1 hx2)
    obtain ⟨v, hv⟩ : ∃ v, ((n : Int) + 81 - nx) / 3 = v := ⟨_, rfl⟩
    rw [hv] at HL ⊢
    clear hv
    go_enter Try.func43, Try.ntmps43
    go_wp2_with fail
    refine ((HC.out _ (RdG.alloc HR.out _))).mono ?_
    rintro e w1 ⟨rfl, b⟩
    have Sw1 := Lib.hid b.size
    have HB := Lib.hid (chain0 (w := w) (by repeat (first | with_reducible exact Below.refl _ _ | with_reducible exact HB.out | with_reducible apply Below.drew | with_reducible apply bdN | with_reducible refine Below.alloc ?_ (by first | exact Nat.le_refl _ | with_reducible exact HB.out.size | omega | (simp; done) | (simp; omega) | (have := HB.out.size; simp at *; omega)) _ | with_reducible refine Below.setCell ?_ (by first | exact Nat.le_refl _ | with_reducible exact HB.out.size | omega | (simp; done) | (simp; omega) | (have := HB.out.size; simp at *; omega)) _)) b)
    have HR := Lib.hid (RdG.below (by repeat (first | with_reducible exact HR.out | with_reducible apply RdG.drewN | with_reducible apply RdG.drew | with_reducible apply RdG.alloc)) b)
    have K1 : Hid (GBox _ (w.heap.size) (⟨27, s, nx, .slice p n c, .slice ps ns cs, .slice pw nw cw⟩)) := Lib.hid (GBox.below (by repeat (first | with_reducible exact K1.out | with_reducible apply GBox.drewN | with_reducible apply GBox.drew | (with_reducible refine GBox.newAt ?_ ?_ <;> first | (simp; done) | rfl) | with_reducible apply GBox.alloc)) b)
    try clear k1a k1b k1c k1d k1e k1z
    have k1z := K1.out.lt
    obtain ⟨k1a, k1b, k1c, k1d, k1e⟩ := K1.out.cell
    clear b
    go_wp2_with fail
    refine ((HL.out _)).mono ?_
    rintro e w2 ⟨rfl, b⟩
    have Sw2 := Lib.hid b.size
    have HB := Lib.hid (chain0 (w := w) (by repeat (first | with_reducible exact Below.refl _ _ | with_reducible exact HB.out | with_reducible apply Below.drew | with_reducible apply bdN | with_reducible refine Below.alloc ?_ (by first | exact Nat.le_refl _ | with_reducible exact HB.out.size | omega | (simp; done) | (simp; omega) | (have := HB.out.size; simp at *; omega)) _ | with_reducible refine Below.setCell ?_ (by first | exact Nat.le_refl _ | with_reducible exact HB.out.size | omega | (simp; done) | (simp; omega) | (have := HB.out.size; simp at *; omega)) _)) b)
    have HR := Lib.hid (RdG.below (by repeat (first | with_reducible exact HR.out | with_reducible apply RdG.drewN | with_reducible apply RdG.drew | with_reducible apply RdG.alloc)) b)
    have K1 : Hid (GBox _ (w.heap.size) (⟨27, s, nx, .slice p n c, .slice ps ns cs, .slice pw nw cw⟩)) := Lib.hid (GBox.below (by repeat (first | with_reducible exact K1.out | with_reducible apply GBox.drewN | with_reducible apply GBox.drew | (with_reducible refine GBox.newAt ?_ ?_ <;> first | (simp; done) | rfl) | with_reducible apply GBox.alloc)) b)
    try clear k1a k1b k1c k1d k1e k1z
    have k1z := K1.out.lt
    obtain ⟨k1a, k1b, k1c, k1d, k1e⟩ := K1.out.cell
    clear b
    go_wp2_with fail
    go_ret2
    exact ⟨rfl, by repeat (first | with_reducible exact Below.refl _ _ | with_reducible exact HB.out | with_reducible apply Below.drew | with_reducible apply bdN | with_reducible refine Below.alloc ?_ (by first | exact Nat.le_refl _ | with_reducible exact HB.out.size | omega | (simp; done) | (simp; omega) | (have := HB.out.size; simp at *; omega)) _ | with_reducible refine Below.setCell ?_ (by first | exact Nat.le_refl _ | with_reducible exact HB.out.size | omega | (simp; done) | (simp; omega) | (have := HB.out.size; simp at *; omega)) _)⟩
end Go.Proofs.Yteccbcbijfcpmaa.game

/- ClaimKind: the program's and the model's. -/
namespace Go.Proofs.Yteccbcbijfcpmaa.game
open Go.RowKit
open cards deal
set_option linter.unusedVariables false

noncomputable def ckR (g : Gm) (cl : Cd) : Int × Bool := if g.ok = true then (kind g.l g.sc.length cl, true) else (0, false)
/-- What is known of the slices of a valid Game. -/
structure OkG (g : Gm) (n ns : Nat) : Prop where
  n : n ≤ 81
  ns : 1 ≤ ns ∧ ns ≤ 4
  ok : g.l.all Cd.ok = true
  nd : g.l.Nodup
theorem okG {g : Gm} {n c ns cs nw cw : Nat} {p ps pw : Option Addr} (hf : FitG n c ns cs nw cw p ps pw g) (h : g.okP) : OkG g n ns :=
  ⟨by have h1 := h.d.len81; have h2 := hf.hn; have h3 : g.l.length ≤ 81 := h1; omega, by have h1 := h.p1; have h2 := h.p4; have h3 := hf.hs; omega, h.d.cards, h.d.2.2.2⟩

set_option maxRecDepth 100000 in
set_option maxHeartbeats 2000000 in
theorem impl_ck (g : Gm) (cl : Cd) (p ps pw : Option Addr) (n c ns cs nw cw : Nat) (w : World) (hf : FitG n c ns cs nw cw p ps pw g) (hr : RdG w p ps pw g.l g.sc g.wr) (hw : wfc cl) :
    Calls Try.prog 26 #[gval g.s g.nx (.slice p n c) (.slice ps ns cs) (.slice pw nw cw), cl.val] w fun e w' => e = .returned (.tuple #[.int .i64 (ckR g cl).1, .bool (ckR g cl).2]) ∧ Below w.heap.size w w' := by
  have HR := Lib.hid hr
  have HF := Lib.hid hf
  have HC := Lib.hid (fun w h => is_game g p ps pw n c ns cs nw cw w hf h)
  have K3 : Hid (CBox ((w.alloc (Gv.obj ⟨27, g.s, g.nx, .slice p n c, .slice ps ns cs, .slice pw nw cw⟩)).alloc (Cv.obj ⟨45, cl⟩)) (w.heap.size + 1) ⟨45, cl⟩) := Lib.hid (CBox.newAt (by simp) rfl)
  cases hok : g.ok
  · have HT := Lib.hid (show ckR g cl = (0, false) by unfold ckR; rw [if_neg (by simp [hok])])
    rw [hok] at HC
    rw [HT.out]
    clear hf hr hok HT
    obtain ⟨s, nx, l, sc, wt⟩ := g
    simp only at HR HC K3 ⊢
    go_enter Try.func26, Try.ntmps26
    go_upto_region 1 with fail
    obtain ⟨w0, ew, b⟩ : ∃ wOPN : World, wOPN = ((w.alloc (Gv.obj ⟨27, s, nx, .slice p n c, .slice ps ns cs, .slice pw nw cw⟩)).alloc (Cv.obj ⟨45, cl⟩)) ∧ Below (((w.alloc (Gv.obj ⟨27, s, nx, .slice p n c, .slice ps ns cs, .slice pw nw cw⟩)).alloc (Cv.obj ⟨45, cl⟩))).heap.size (((w.alloc (Gv.obj ⟨27, s, nx, .slice p n c, .slice ps ns cs, .slice pw nw cw⟩)).alloc (Cv.obj ⟨45, cl⟩))) wOPN := ⟨_, rfl, Below.refl _ _⟩
    rw [← ew]
    clear ew
    have Sw0 := Lib.hid b.size
    have HB := Lib.hid (chain0 (w := w) (by repeat (first | with_reducible exact Below.refl _ _ | with_reducible exact HB.out | with_reducible apply Below.drew | with_reducible apply bdN | with_reducible refine Below.alloc ?_ (by first | exact Nat.le_refl _ | with_reducible exact HB.out.size | omega | (simp; done) | (simp; omega) | (have := HB.out.size; simp at *; omega)) _ | with_reducible refine Below.setCell ?_ (by first | exact Nat.le_refl _ | with_reducible exact HB.out.size | omega | (simp; done) | (simp; omega) | (have := HB.out.size; simp at *; omega)) _)) b)
    have HR := Lib.hid (RdG.below (by repeat (first | with_reducible exact HR.out | with_reducible apply RdG.drewN | with_reducible apply RdG.drew | with_reducible apply RdG.alloc)) b)
    have K2 : Hid (GBox _ (w.heap.size) (⟨27, s, nx, .slice p n c, .slice ps ns cs, .slice pw nw cw⟩)) := Lib.hid (GBox.below (by repeat (first | with_reducible exact K2.out | with_reducible apply GBox.drewN | with_reducible apply GBox.drew | (with_reducible refine GBox.newAt ?_ ?_ <;> first | (simp; done) | rfl) | with_reducible apply GBox.alloc)) b)
    have K3 : Hid (CBox _ (w.heap.size + 1) (⟨45, cl⟩)) := Lib.hid (CBox.below (by repeat (first | with_reducible exact K3.out | with_reducible apply CBox.drewN | with_reducible apply CBox.drew | (with_reducible refine CBox.newAt ?_ ?_ <;> first | (simp; done) | rfl) | with_reducible apply CBox.alloc)) b)
    try clear k2a k2b k2c k2d k2e k2z
    have k2z := K2.out.lt
    obtain ⟨k2a, k2b, k2c, k2d, k2e⟩ := K2.out.cell
    try clear k3a k3b k3c k3d k3z
    have k3z := K3.out.lt
    obtain ⟨k3a, k3b, k3c, k3d⟩ := K3.out.cell
    clear b
    go_wp2_with fail
    refine ((HC.out _ HR.out)).mono ?_
    rintro e w1 ⟨rfl, b⟩
    have Sw1 := Lib.hid b.size
    have HB := Lib.hid (chain0 (w := w) (by repeat (first | with_reducible exact Below.refl _ _ | with_reducible exact HB.out | with_reducible apply Below.drew | with_reducible apply bdN | with_reducible refine Below.alloc ?_ (by first | exact Nat.le_refl _ | with_reducible exact HB.out.size | omega | (simp; done) | (simp; omega) | (have := HB.out.size; simp at *; omega)) _ | with_reducible refine Below.setCell ?_ (by first | exact Nat.le_refl _ | with_reducible exact HB.out.size | omega | (simp; done) | (simp; omega) | (have := HB.out.size; simp at *; omega)) _)) b)
    have HR := Lib.hid (RdG.below (by repeat (first | with_reducible exact HR.out | with_reducible apply RdG.drewN | with_reducible apply RdG.drew | with_reducible apply RdG.alloc)) b)
    have K2 : Hid (GBox _ (w.heap.size) (⟨27, s, nx, .slice p n c, .slice ps ns cs, .slice pw nw cw⟩)) := Lib.hid (GBox.below (by repeat (first | with_reducible exact K2.out | with_reducible apply GBox.drewN | with_reducible apply GBox.drew | (with_reducible refine GBox.newAt ?_ ?_ <;> first | (simp; done) | rfl) | with_reducible apply GBox.alloc)) b)
    have K3 : Hid (CBox _ (w.heap.size + 1) (⟨45, cl⟩)) := Lib.hid (CBox.below (by repeat (first | with_reducible exact K3.out | with_reducible apply CBox.drewN | with_reducible apply CBox.drew | (with_reducible refine CBox.newAt ?_ ?_ <;> first | (simp; done) | rfl) | with_reducible apply CBox.alloc)) b)
    try clear k2a k2b k2c k2d k2e k2z
    have k2z := K2.out.lt
    obtain ⟨k2a, k2b, k2c, k2d, k2e⟩ := K2.out.cell
    try clear k3a k3b k3c k3d k3z
    have k3z := K3.out.lt
    obtain ⟨k3a, k3b, k3c, k3d⟩ := K3.out.cell
    clear b
    go_wp2_with fail
    go_ret2
    exact ⟨rfl, by repeat (first | with_reducible exact Below.refl _ _ | with_reducible exact HB.out | with_reducible apply Below.drew | with_reducible apply bdN | with_reducible refine Below.alloc ?_ (by first | exact Nat.le_refl _ | with_reducible exact HB.out.size | omega | (simp; done) | (simp; omega) | (have := HB.out.size; simp at *; omega)) _ | with_reducible refine Below.setCell ?_ (by first | exact Nat.le_refl _ | with_reducible exact HB.out.size | omega | (simp; done) | (simp; omega) | (have := HB.out.size; simp at *; omega)) _)⟩
  · have HO := okG hf (Gm.ok_iff.1 hok)
    have HT := Lib.hid (show ckR g cl = (kind g.l ns cl, true) by unfold ckR; rw [if_pos hok, hf.hs])
    have HK := Lib.hid (fun w h => kind_of g.s g.nx g.l cl p ps pw n c ns cs nw cw w hf.hn HO.n (by have := HO.ns; omega) h HO.ok HO.nd hw)
    obtain ⟨kd, hkd⟩ : ∃ kd, kind g.l ns cl = kd := ⟨_, rfl⟩
    rw [hkd] at HK
    rw [hok] at HC
    rw [HT.out, hkd]
    clear hf hr hok HT HO hkd
    obtain ⟨s, nx, l, sc, wt⟩ := g
    simp only at HR HC HK K3 ⊢
    go_enter Try.func26, Try.ntmps26
    go_upto_region 1 with fail
    obtain ⟨w0, ew, b⟩ : ∃ wOPN : World, wOPN = ((w.alloc (Gv.obj ⟨27, s, nx, .slice p n c, .slice ps ns cs, .slice pw nw cw⟩)).alloc (Cv.obj ⟨45, cl⟩)) ∧ Below (((w.alloc (Gv.obj ⟨27, s, nx, .slice p n c, .slice ps ns cs, .slice pw nw cw⟩)).alloc (Cv.obj ⟨45, cl⟩))).heap.size (((w.alloc (Gv.obj ⟨27, s, nx, .slice p n c, .slice ps ns cs, .slice pw nw cw⟩)).alloc (Cv.obj ⟨45, cl⟩))) wOPN := ⟨_, rfl, Below.refl _ _⟩
    rw [← ew]
    clear ew
    have Sw0 := Lib.hid b.size
    have HB := Lib.hid (chain0 (w := w) (by repeat (first | with_reducible exact Below.refl _ _ | with_reducible exact HB.out | with_reducible apply Below.drew | with_reducible apply bdN | with_reducible refine Below.alloc ?_ (by first | exact Nat.le_refl _ | with_reducible exact HB.out.size | omega | (simp; done) | (simp; omega) | (have := HB.out.size; simp at *; omega)) _ | with_reducible refine Below.setCell ?_ (by first | exact Nat.le_refl _ | with_reducible exact HB.out.size | omega | (simp; done) | (simp; omega) | (have := HB.out.size; simp at *; omega)) _)) b)
    have HR := Lib.hid (RdG.below (by repeat (first | with_reducible exact HR.out | with_reducible apply RdG.drewN | with_reducible apply RdG.drew | with_reducible apply RdG.alloc)) b)
    have K2 : Hid (GBox _ (w.heap.size) (⟨27, s, nx, .slice p n c, .slice ps ns cs, .slice pw nw cw⟩)) := Lib.hid (GBox.below (by repeat (first | with_reducible exact K2.out | with_reducible apply GBox.drewN | with_reducible apply GBox.drew | (with_reducible refine GBox.newAt ?_ ?_ <;> first | (simp; done) | rfl) | with_reducible apply GBox.alloc)) b)
    have K3 : Hid (CBox _ (w.heap.size + 1) (⟨45, cl⟩)) := Lib.hid (CBox.below (by repeat (first | with_reducible exact K3.out | with_reducible apply CBox.drewN | with_reducible apply CBox.drew | (with_reducible refine CBox.newAt ?_ ?_ <;> first | (simp; done) | rfl) | with_reducible apply CBox.alloc)) b)
    try clear k2a k2b k2c k2d k2e k2z
    have k2z := K2.out.lt
    obtain ⟨k2a, k2b, k2c, k2d, k2e⟩ := K2.out.cell
    try clear k3a k3b k3c k3d k3z
    have k3z := K3.out.lt
    obtain ⟨k3a, k3b, k3c, k3d⟩ := K3.out.cell
    clear b
    go_wp2_with fail
    refine ((HC.out _ HR.out)).mono ?_
    rintro e w1 ⟨rfl, b⟩
    have Sw1 := Lib.hid b.size
    have HB := Lib.hid (chain0 (w := w) (by repeat (first | with_reducible exact Below.refl _ _ | with_reducible exact HB.out | with_reducible apply Below.drew | with_reducible apply bdN | with_reducible refine Below.alloc ?_ (by first | exact Nat.le_refl _ | with_reducible exact HB.out.size | omega | (simp; done) | (simp; omega) | (have := HB.out.size; simp at *; omega)) _ | with_reducible refine Below.setCell ?_ (by first | exact Nat.le_refl _ | with_reducible exact HB.out.size | omega | (simp; done) | (simp; omega) | (have := HB.out.size; simp at *; omega)) _)) b)
    have HR := Lib.hid (RdG.below (by repeat (first | with_reducible exact HR.out | with_reducible apply RdG.drewN | with_reducible apply RdG.drew | with_reducible apply RdG.alloc)) b)
    have K2 : Hid (GBox _ (w.heap.size) (⟨27, s, nx, .slice p n c, .slice ps ns cs, .slice pw nw cw⟩)) := Lib.hid (GBox.below (by repeat (first | with_reducible exact K2.out | with_reducible apply GBox.drewN | with_reducible apply GBox.drew | (with_reducible refine GBox.newAt ?_ ?_ <;> first | (simp; done) | rfl) | with_reducible apply GBox.alloc)) b)
    have K3 : Hid (CBox _ (w.heap.size + 1) (⟨45, cl⟩)) := Lib.hid (CBox.below (by repeat (first | with_reducible exact K3.out | with_reducible apply CBox.drewN | with_reducible apply CBox.drew | (with_reducible refine CBox.newAt ?_ ?_ <;> first | (simp; done) | rfl) | with_reducible apply CBox.alloc)) b)
    try clear k2a k2b k2c k2d k2e k2z
    have k2z := K2.out.lt
    obtain ⟨k2a, k2b, k2c, k2d, k2e⟩ := K2.out.cell
    try clear k3a k3b k3c k3d k3z
    have k3z := K3.out.lt
    obtain ⟨k3a, k3b, k3c, k3d⟩ := K3.out.cell
    clear b
    go_wp2_with fail
    refine ((HK.out _ HR.out.a)).mono ?_
    rintro e w2 ⟨rfl, b⟩
    have Sw2 := Lib.hid b.size
    have HB := Lib.hid (chain0 (w := w) (by repeat (first | with_reducible exact Below.refl _ _ | with_reducible exact HB.out | with_reducible apply Below.drew | with_reducible apply bdN | with_reducible refine Below.alloc ?_ (by first | exact Nat.le_refl _ | with_reducible exact HB.out.size | omega | (simp; done) | (simp; omega) | (have := HB.out.size; simp at *; omega)) _ | with_reducible refine Below.setCell ?_ (by first | exact Nat.le_refl _ | with_reducible exact HB.out.size | omega | (simp; done) | (simp; omega) | (have := HB.out.size; simp at *; omega)) _)) b)
    have HR := Lib.hid (RdG.below (by repeat (first | with_reducible exact HR.out | with_reducible apply RdG.drewN | with_reducible apply RdG.drew | with_reducible apply RdG.alloc)) b)
    have K2 : Hid (GBox _ (w.heap.size) (⟨27, s, nx, .slice p n c, .slice ps ns cs, .slice pw nw cw⟩)) := Lib.hid (GBox.below (by repeat (first | with_reducible exact K2.out | with_reducible apply GBox.drewN | with_reducible apply GBox.drew | (with_reducible refine GBox.newAt ?_ ?_ <;> first | (simp; done) | rfl) | with_reducible apply GBox.alloc)) b)
    have K3 : Hid (CBox _ (w.heap.size + 1) (⟨45, cl⟩)) := Lib.hid (CBox.below (by repeat (first | with_reducible exact K3.out | with_reducible apply CBox.drewN | with_reducible apply CBox.drew | (with_reducible refine CBox.newAt ?_ ?_ <;> first | (simp; done) | rfl) | with_reducible apply CBox.alloc)) b)
    try clear k2a k2b k2c k2d k2e k2z
    have k2z := K2.out.lt
    obtain ⟨k2a, k2b, k2c, k2d, k2e⟩ := K2.out.cell
    try clear k3a k3b k3c k3d k3z
    have k3z := K3.out.lt
    obtain ⟨k3a, k3b, k3c, k3d⟩ := K3.out.cell
    clear b
    go_wp2_with fail
    go_ret2
    exact ⟨rfl, by repeat (first | with_reducible exact Below.refl _ _ | with_reducible exact HB.out | with_reducible apply Below.drew | with_reducible apply bdN | with_reducible refine Below.alloc ?_ (by first | exact Nat.le_refl _ | with_reducible exact HB.out.size | omega | (simp; done) | (simp; omega) | (have := HB.out.size; simp at *; omega)) _ | with_reducible refine Below.setCell ?_ (by first | exact Nat.le_refl _ | with_reducible exact HB.out.size | omega | (simp; done) | (simp; omega) | (have := HB.out.size; simp at *; omega)) _)⟩

set_option maxRecDepth 100000 in
set_option maxHeartbeats 2000000 in
theorem spec_ck (g : Gm) (cl : Cd) (p ps pw : Option Addr) (n c ns cs nw cw : Nat) (w : World) (hf : FitG n c ns cs nw cw p ps pw g) (hr : RdG w p ps pw g.l g.sc g.wr) (hw : wfc cl) :
    Calls Try.prog 24 #[gval g.s g.nx (.slice p n c) (.slice ps ns cs) (.slice pw nw cw), cl.val] w fun e w' => e = .returned (.tuple #[.int .i64 (ckR g cl).1, .bool (ckR g cl).2]) ∧ Below w.heap.size w w' := by
  have HR := Lib.hid hr
  have HF := Lib.hid hf
  have HC := Lib.hid (fun w h => l8_game g p ps pw n c ns cs nw cw w hf h)
  have K3 : Hid (CBox ((w.alloc (Gv.obj ⟨27, g.s, g.nx, .slice p n c, .slice ps ns cs, .slice pw nw cw⟩)).alloc (Cv.obj ⟨45, cl⟩)) (w.heap.size + 1) ⟨45, cl⟩) := Lib.hid (CBox.newAt (by simp) rfl)
  cases hok : g.ok
  · have HT := Lib.hid (show ckR g cl = (0, false) by unfold ckR; rw [if_neg (by simp [hok])])
    rw [hok] at HC
    rw [HT.out]
    clear hf hr hok HT
    obtain ⟨s, nx, l, sc, wt⟩ := g
    simp only at HR HC K3 ⊢
    go_enter Try.func24, Try.ntmps24
    go_upto_region 1 with fail
    obtain ⟨w0, ew, b⟩ : ∃ wOPN : World, wOPN = ((w.alloc (Gv.obj ⟨27, s, nx, .slice p n c, .slice ps ns cs, .slice pw nw cw⟩)).alloc (Cv.obj ⟨45, cl⟩)) ∧ Below (((w.alloc (Gv.obj ⟨27, s, nx, .slice p n c, .slice ps ns cs, .slice pw nw cw⟩)).alloc (Cv.obj ⟨45, cl⟩))).heap.size (((w.alloc (Gv.obj ⟨27, s, nx, .slice p n c, .slice ps ns cs, .slice pw nw cw⟩)).alloc (Cv.obj ⟨45, cl⟩))) wOPN := ⟨_, rfl, Below.refl _ _⟩
    rw [← ew]
    clear ew
    have Sw0 := Lib.hid b.size
    have HB := Lib.hid (chain0 (w := w) (by repeat (first | with_reducible exact Below.refl _ _ | with_reducible exact HB.out | with_reducible apply Below.drew | with_reducible apply bdN | with_reducible refine Below.alloc ?_ (by first | exact Nat.le_refl _ | with_reducible exact HB.out.size | omega | (simp; done) | (simp; omega) | (have := HB.out.size; simp at *; omega)) _ | with_reducible refine Below.setCell ?_ (by first | exact Nat.le_refl _ | with_reducible exact HB.out.size | omega | (simp; done) | (simp; omega) | (have := HB.out.size; simp at *; omega)) _)) b)
    have HR := Lib.hid (RdG.below (by repeat (first | with_reducible exact HR.out | with_reducible apply RdG.drewN | with_reducible apply RdG.drew | with_reducible apply RdG.alloc)) b)
    have K2 : Hid (GBox _ (w.heap.size) (⟨27, s, nx, .slice p n c, .slice ps ns cs, .slice pw nw cw⟩)) := Lib.hid (GBox.below (by repeat (first | with_reducible exact K2.out | with_reducible apply GBox.drewN | with_reducible apply GBox.drew | (with_reducible refine GBox.newAt ?_ ?_ <;> first | (simp; done) | rfl) | with_reducible apply GBox.alloc)) b)
    have K3 : Hid (CBox _ (w.heap.size + 1) (⟨45, cl⟩)) := Lib.hid (CBox.below (by repeat (first | with_reducible exact K3.out | with_reducible apply CBox.drewN | with_reducible apply CBox.drew | (with_reducible refine CBox.newAt ?_ ?_ <;> first | (simp; done) | rfl) | with_reducible apply CBox.alloc)) b)
    try clear k2a k2b k2c k2d k2e k2z
    have k2z := K2.out.lt
    obtain ⟨k2a, k2b, k2c, k2d, k2e⟩ := K2.out.cell
    try clear k3a k3b k3c k3d k3z
    have k3z := K3.out.lt
    obtain ⟨k3a, k3b, k3c, k3d⟩ := K3.out.cell
    clear b
    go_wp2_with fail
    refine ((HC.out _ HR.out)).mono ?_
    rintro e w1 ⟨rfl, b⟩
    have Sw1 := Lib.hid b.size
    have HB := Lib.hid (chain0 (w := w) (by repeat (first | with_reducible exact Below.refl _ _ | with_reducible exact HB.out | with_reducible apply Below.drew | with_reducible apply bdN | with_reducible refine Below.alloc ?_ (by first | exact Nat.le_refl _ | with_reducible exact HB.out.size | omega | (simp; done) | (simp; omega) | (have := HB.out.size; simp at *; omega)) _ | with_reducible refine Below.setCell ?_ (by first | exact Nat.le_refl _ | with_reducible exact HB.out.size | omega | (simp; done) | (simp; omega) | (have := HB.out.size; simp at *; omega)) _)) b)
    have HR := Lib.hid (RdG.below (by repeat (first | with_reducible exact HR.out | with_reducible apply RdG.drewN | with_reducible apply RdG.drew | with_reducible apply RdG.alloc)) b)
    have K2 : Hid (GBox _ (w.heap.size) (⟨27, s, nx, .slice p n c, .slice ps ns cs, .slice pw nw cw⟩)) := Lib.hid (GBox.below (by repeat (first | with_reducible exact K2.out | with_reducible apply GBox.drewN | with_reducible apply GBox.drew | (with_reducible refine GBox.newAt ?_ ?_ <;> first | (simp; done) | rfl) | with_reducible apply GBox.alloc)) b)
    have K3 : Hid (CBox _ (w.heap.size + 1) (⟨45, cl⟩)) := Lib.hid (CBox.below (by repeat (first | with_reducible exact K3.out | with_reducible apply CBox.drewN | with_reducible apply CBox.drew | (with_reducible refine CBox.newAt ?_ ?_ <;> first | (simp; done) | rfl) | with_reducible apply CBox.alloc)) b)
    try clear k2a k2b k2c k2d k2e k2z
    have k2z := K2.out.lt
    obtain ⟨k2a, k2b, k2c, k2d, k2e⟩ := K2.out.cell
    try clear k3a k3b k3c k3d k3z
    have k3z := K3.out.lt
    obtain ⟨k3a, k3b, k3c, k3d⟩ := K3.out.cell
    clear b
    go_wp2_with fail
    go_ret2
    exact ⟨rfl, by repeat (first | with_reducible exact Below.refl _ _ | with_reducible exact HB.out | with_reducible apply Below.drew | with_reducible apply bdN | with_reducible refine Below.alloc ?_ (by first | exact Nat.le_refl _ | with_reducible exact HB.out.size | omega | (simp; done) | (simp; omega) | (have := HB.out.size; simp at *; omega)) _ | with_reducible refine Below.setCell ?_ (by first | exact Nat.le_refl _ | with_reducible exact HB.out.size | omega | (simp; done) | (simp; omega) | (have := HB.out.size; simp at *; omega)) _)⟩
  · have HO := okG hf (Gm.ok_iff.1 hok)
    have HT := Lib.hid (show ckR g cl = (kind g.l ns cl, true) by unfold ckR; rw [if_pos hok, hf.hs])
    have HK := Lib.hid (fun w h => l8_kind g.s g.nx g.l cl p ps pw n c ns cs nw cw w hf.hn HO.n (by have := HO.ns; omega) h HO.ok HO.nd hw)
    obtain ⟨kd, hkd⟩ : ∃ kd, kind g.l ns cl = kd := ⟨_, rfl⟩
    rw [hkd] at HK
    rw [hok] at HC
    rw [HT.out, hkd]
    clear hf hr hok HT HO hkd
    obtain ⟨s, nx, l, sc, wt⟩ := g
    simp only at HR HC HK K3 ⊢
    go_enter Try.func24, Try.ntmps24
    go_upto_region 1 with fail
    obtain ⟨w0, ew, b⟩ : ∃ wOPN : World, wOPN = ((w.alloc (Gv.obj ⟨27, s, nx, .slice p n c, .slice ps ns cs, .slice pw nw cw⟩)).alloc (Cv.obj ⟨45, cl⟩)) ∧ Below (((w.alloc (Gv.obj ⟨27, s, nx, .slice p n c, .slice ps ns cs, .slice pw nw cw⟩)).alloc (Cv.obj ⟨45, cl⟩))).heap.size (((w.alloc (Gv.obj ⟨27, s, nx, .slice p n c, .slice ps ns cs, .slice pw nw cw⟩)).alloc (Cv.obj ⟨45, cl⟩))) wOPN := ⟨_, rfl, Below.refl _ _⟩
    rw [← ew]
    clear ew
    have Sw0 := Lib.hid b.size
    have HB := Lib.hid (chain0 (w := w) (by repeat (first | with_reducible exact Below.refl _ _ | with_reducible exact HB.out | with_reducible apply Below.drew | with_reducible apply bdN | with_reducible refine Below.alloc ?_ (by first | exact Nat.le_refl _ | with_reducible exact HB.out.size | omega | (simp; done) | (simp; omega) | (have := HB.out.size; simp at *; omega)) _ | with_reducible refine Below.setCell ?_ (by first | exact Nat.le_refl _ | with_reducible exact HB.out.size | omega | (simp; done) | (simp; omega) | (have := HB.out.size; simp at *; omega)) _)) b)
    have HR := Lib.hid (RdG.below (by repeat (first | with_reducible exact HR.out | with_reducible apply RdG.drewN | with_reducible apply RdG.drew | with_reducible apply RdG.alloc)) b)
    have K2 : Hid (GBox _ (w.heap.size) (⟨27, s, nx, .slice p n c, .slice ps ns cs, .slice pw nw cw⟩)) := Lib.hid (GBox.below (by repeat (first | with_reducible exact K2.out | with_reducible apply GBox.drewN | with_reducible apply GBox.drew | (with_reducible refine GBox.newAt ?_ ?_ <;> first | (simp; done) | rfl) | with_reducible apply GBox.alloc)) b)
    have K3 : Hid (CBox _ (w.heap.size + 1) (⟨45, cl⟩)) := Lib.hid (CBox.below (by repeat (first | with_reducible exact K3.out | with_reducible apply CBox.drewN | with_reducible apply CBox.drew | (with_reducible refine CBox.newAt ?_ ?_ <;> first | (simp; done) | rfl) | with_reducible apply CBox.alloc)) b)
    try clear k2a k2b k2c k2d k2e k2z
    have k2z := K2.out.lt
    obtain ⟨k2a, k2b, k2c, k2d, k2e⟩ := K2.out.cell
    try clear k3a k3b k3c k3d k3z
    have k3z := K3.out.lt
    obtain ⟨k3a, k3b, k3c, k3d⟩ := K3.out.cell
    clear b
    go_wp2_with fail
    refine ((HC.out _ HR.out)).mono ?_
    rintro e w1 ⟨rfl, b⟩
    have Sw1 := Lib.hid b.size
    have HB := Lib.hid (chain0 (w := w) (by repeat (first | with_reducible exact Below.refl _ _ | with_reducible exact HB.out | with_reducible apply Below.drew | with_reducible apply bdN | with_reducible refine Below.alloc ?_ (by first | exact Nat.le_refl _ | with_reducible exact HB.out.size | omega | (simp; done) | (simp; omega) | (have := HB.out.size; simp at *; omega)) _ | with_reducible refine Below.setCell ?_ (by first | exact Nat.le_refl _ | with_reducible exact HB.out.size | omega | (simp; done) | (simp; omega) | (have := HB.out.size; simp at *; omega)) _)) b)
    have HR := Lib.hid (RdG.below (by repeat (first | with_reducible exact HR.out | with_reducible apply RdG.drewN | with_reducible apply RdG.drew | with_reducible apply RdG.alloc)) b)
    have K2 : Hid (GBox _ (w.heap.size) (⟨27, s, nx, .slice p n c, .slice ps ns cs, .slice pw nw cw⟩)) := Lib.hid (GBox.below (by repeat (first | with_reducible exact K2.out | with_reducible apply GBox.drewN | with_reducible apply GBox.drew | (with_reducible refine GBox.newAt ?_ ?_ <;> first | (simp; done) | rfl) | with_reducible apply GBox.alloc)) b)
    have K3 : Hid (CBox _ (w.heap.size + 1) (⟨45, cl⟩)) := Lib.hid (CBox.below (by repeat (first | with_reducible exact K3.out | with_reducible apply CBox.drewN | with_reducible apply CBox.drew | (with_reducible refine CBox.newAt ?_ ?_ <;> first | (simp; done) | rfl) | with_reducible apply CBox.alloc)) b)
    try clear k2a k2b k2c k2d k2e k2z
    have k2z := K2.out.lt
    obtain ⟨k2a, k2b, k2c, k2d, k2e⟩ := K2.out.cell
    try clear k3a k3b k3c k3d k3z
    have k3z := K3.out.lt
    obtain ⟨k3a, k3b, k3c, k3d⟩ := K3.out.cell
    clear b
    go_wp2_with fail
    refine ((HK.out _ HR.out.a)).mono ?_
    rintro e w2 ⟨rfl, b⟩
    have Sw2 := Lib.hid b.size
    have HB := Lib.hid (chain0 (w := w) (by repeat (first | with_reducible exact Below.refl _ _ | with_reducible exact HB.out | with_reducible apply Below.drew | with_reducible apply bdN | with_reducible refine Below.alloc ?_ (by first | exact Nat.le_refl _ | with_reducible exact HB.out.size | omega | (simp; done) | (simp; omega) | (have := HB.out.size; simp at *; omega)) _ | with_reducible refine Below.setCell ?_ (by first | exact Nat.le_refl _ | with_reducible exact HB.out.size | omega | (simp; done) | (simp; omega) | (have := HB.out.size; simp at *; omega)) _)) b)
    have HR := Lib.hid (RdG.below (by repeat (first | with_reducible exact HR.out | with_reducible apply RdG.drewN | with_reducible apply RdG.drew | with_reducible apply RdG.alloc)) b)
    have K2 : Hid (GBox _ (w.heap.size) (⟨27, s, nx, .slice p n c, .slice ps ns cs, .slice pw nw cw⟩)) := Lib.hid (GBox.below (by repeat (first | with_reducible exact K2.out | with_reducible apply GBox.drewN | with_reducible apply GBox.drew | (with_reducible refine GBox.newAt ?_ ?_ <;> first | (simp; done) | rfl) | with_reducible apply GBox.alloc)) b)
    have K3 : Hid (CBox _ (w.heap.size + 1) (⟨45, cl⟩)) := Lib.hid (CBox.below (by repeat (first | with_reducible exact K3.out | with_reducible apply CBox.drewN | with_reducible apply CBox.drew | (with_reducible refine CBox.newAt ?_ ?_ <;> first | (simp; done) | rfl) | with_reducible apply CBox.alloc)) b)
    try clear k2a k2b k2c k2d k2e k2z
    have k2z := K2.out.lt
    obtain ⟨k2a, k2b, k2c, k2d, k2e⟩ := K2.out.cell
    try clear k3a k3b k3c k3d k3z
    have k3z := K3.out.lt
    obtain ⟨k3a, k3b, k3c, k3d⟩ := K3.out.cell
    clear b
    go_wp2_with fail
    go_ret2
    exact ⟨rfl, by repeat (first | with_reducible exact Below.refl _ _ | with_reducible exact HB.out | with_reducible apply Below.drew | with_reducible apply bdN | with_reducible refine Below.alloc ?_ (by first | exact Nat.le_refl _ | with_reducible exact HB.out.size | omega | (simp; done) | (simp; omega) | (have := HB.out.size; simp at *; omega)) _ | with_reducible refine Below.setCell ?_ (by first | exact Nat.le_refl _ | with_reducible exact HB.out.size | omega | (simp; done) | (simp; omega) | (have := HB.out.size; simp at *; omega)) _)⟩
end Go.Proofs.Yteccbcbijfcpmaa.game

/- Stores into a Game's block, and into its tallies. -/
namespace Go.Proofs.Yteccbcbijfcpmaa.game
open Go.RowKit
open cards deal reg
set_option linter.unusedVariables false

theorem OwnI.apartJ {w : World} {B : Nat} {v : Value} {l : List Int} (h : OwnI w B v l) {p : Addr} (hp : ∀ g, v.ownBlock = some g → g ≠ p.block) (u : Value) : OwnI (w.setCell p u) B v l := by
  obtain ⟨hl, h0 | ⟨g, cap, cur, e, hb, hg, r⟩⟩ := h
  · exact ⟨hl, .inl h0⟩
  · subst e
    exact ⟨hl, .inr ⟨g, cap, cur, rfl, hb, (Below.heap_setCell w p u g (hp g rfl)).trans hg, r⟩⟩
theorem gb_cell (w : World) (g o : Nat) (u : Value) : w.grownBy (w.setCell ⟨g, o, none⟩ u) (some g) := ⟨rfl, rfl, rfl, by simp [World.setCell], fun k hk hne => Below.heap_setCell _ _ _ _ (fun e => hne (by rw [e]))⟩
theorem exec_index0 {k n b cp : Nat} (hk : k < n) {a : Act} {o : Oper} {p q : Operand} (ho : o.op = .indexAddr 25 p q) (hp : a.eval p = .slice (some ⟨b, 0, none⟩) n cp) (hq : a.eval q = .int .i64 k) (w : World) :
    (execOp a.eval o).run Try.prog w = .ok (.value (.pointer (some ⟨b, k, none⟩))) w := by
  have h := exec_indexI (ad := 0) hk ho hp hq w
  rwa [Nat.zero_add] at h
theorem offC {w : World} {B C g : Nat} {vl vs vw : Value} {l : List Cd} {sc wr : List Int} (h : OwnG w B C vl vs vw l sc wr) {x : Cd} (hb : CBox w g ⟨45, x⟩) : OffG g vl vs vw :=
  ⟨row_apart (t := 45) h.o1 hb (by decide), row_apart (t := 45) h.o2 hb (by decide), row_apart (t := 45) h.o3 hb (by decide)⟩
/-- There are so many blocks, at least. -/
structure SzA (w : World) (n : Nat) : Prop where
  h : n ≤ w.heap.size
theorem SzA.below {w w1 : World} {n : Nat} (h : SzA w n) (b : Below w.heap.size w w1) : SzA w1 n := ⟨Nat.le_trans h.h b.size⟩
theorem SzA.alloc {w : World} {n : Nat} (h : SzA w n) (o : Obj) : SzA (w.alloc o) n := h.below ((Below.refl _ _).alloc (Nat.le_refl _) o)
theorem SzA.drew {w : World} {n : Nat} (h : SzA w n) : SzA w.drew n := h.below ((Below.refl _ _).drew)
theorem SzA.drewN {w : World} {n : Nat} (h : SzA w n) (k : Nat) : SzA (w.drewN k) n := h.below (bdN (Below.refl _ _) k)
/-- A Deal is stored into a Game's block. -/
theorem deal_sets {w : World} {g : Nat} {t : TypeId} {s0 n0 : Int} {v0 u0 q0 : Value} (h : GBox w g ⟨t, s0, n0, v0, u0, q0⟩) (s n : Int) (v : Value) :
    GBox (((w.setCell ⟨g, 0, none⟩ (.int .i64 s)).setCell ⟨g, 1, none⟩ (.int .i64 n)).setCell ⟨g, 2, none⟩ v) g ⟨t, s, n, v, u0, q0⟩ ∧ w.grownBy (((w.setCell ⟨g, 0, none⟩ (.int .i64 s)).setCell ⟨g, 1, none⟩ (.int .i64 n)).setCell ⟨g, 2, none⟩ v) (some g) :=
  ⟨((h.set0 s).set1 n).set2 v, ((gb_cell w g 0 _).trans (gb_cell _ g 1 _)).trans (gb_cell _ g 2 _)⟩
theorem GBox.grown {w w1 : World} {g g2 : Nat} {x : Gv} (h : GBox w g x) (hg : w.grownBy w1 (some g2)) (hne : g ≠ g2) : GBox w1 g x := (hg.block g h.lt (fun e => hne (Option.some.inj e))).trans h
theorem CBox.grown {w w1 : World} {g g2 : Nat} {x : Cv} (h : CBox w g x) (hg : w.grownBy w1 (some g2)) (hne : g ≠ g2) : CBox w1 g x := (hg.block g h.lt (fun e => hne (Option.some.inj e))).trans h
theorem Below.by_ {B : Nat} {w w0 w1 : World} {g : Nat} (h : Below B w0 w) (hg : w.grownBy w1 (some g)) (hB : B ≤ w.heap.size) (hgB : B ≤ g) : Below B w0 w1 := Below.grown h hg hB (fun k hk => by injection hk with hk; omega)
/-- The tallies of the call's own lie in a block that holds no Game and no Claim. -/
theorem own_ps {w : World} {B n : Nat} {v : Value} {l : List Int} (h : OwnI w B v l) (hn : l.length = n) (hp : 0 < n) : ∃ g c, v = .slice (some ⟨g, 0, none⟩) n c := by
  obtain ⟨p, c, rfl, _, _, hg⟩ := h.form
  obtain ⟨g, rfl, _⟩ := hg (by omega)
  exact ⟨g, c, by rw [hn]⟩
theorem bump_sets {w : World} {B C gs n c : Nat} {vl vw : Value} {l : List Cd} {sc wt : List Int} (h : OwnG w B C vl (.slice (some ⟨gs, 0, none⟩) n c) vw l sc wt) (hn : sc.length = n) (k : Nat) (x : Int) (hx : sc[k]? = some x) :
    OwnG (w.setCell ⟨gs, k, none⟩ (.int .i64 (more x))) B C vl (.slice (some ⟨gs, 0, none⟩) n c) vw l (bump sc k) wt := by
  rw [bump_at hx]
  exact ⟨Own.apart h.o1 (fun g e e2 => h.a12 g e (by rw [show g = gs from e2]; rfl)) _, OwnI.store hn h.o2 k (more x), OwnI.apartJ h.o3 (fun g e e2 => h.a23 g (by rw [show g = gs from e2]; rfl) e) _, h.a12, h.a13, h.a23, h.c1, h.c2, h.c3⟩
theorem bump_setsW {w : World} {B C gs n c : Nat} {vl vs : Value} {l : List Cd} {sc wt : List Int} (h : OwnG w B C vl vs (.slice (some ⟨gs, 0, none⟩) n c) l sc wt) (hn : wt.length = n) (k : Nat) (x : Int) (hx : wt[k]? = some x) :
    OwnG (w.setCell ⟨gs, k, none⟩ (.int .i64 (more x))) B C vl vs (.slice (some ⟨gs, 0, none⟩) n c) l sc (bump wt k) := by
  rw [bump_at hx]
  exact ⟨Own.apart h.o1 (fun g e e2 => h.a13 g e (by rw [show g = gs from e2]; rfl)) _, OwnI.apartJ h.o2 (fun g e e2 => h.a23 g e (by rw [show g = gs from e2]; rfl)) _, OwnI.store hn h.o3 k (more x), h.a12, h.a13, h.a23, h.c1, h.c2, h.c3⟩
/-- What is to come of a Deal whose line is laid for. -/
theorem over_iff {d : Dl} (h : d.okP) (hs : stuckD d = true) (ho : overD d = false) : d.nx < 81 := by
  unfold overD at ho
  rw [hs, Bool.and_true, decide_eq_false_iff_not] at ho
  have := h.2.1.2
  omega
theorem over_no {d : Dl} (ho : overD d = true) : ¬ d.nx < 81 := by
  unfold overD at ho
  rw [Bool.and_eq_true, decide_eq_true_iff] at ho
  omega
end Go.Proofs.Yteccbcbijfcpmaa.game

/- A region that draws its order: operations that only read, then the rest one behind the other, calls among them. -/
namespace Go.Proofs.Yteccbcbijfcpmaa.cards
open Go.RowKit
open reg
set_option linter.unusedVariables false

section
variable {P : Program} {md : Region.Mode} {ops : Array Oper} {Q : Exit → Act → World → Prop} {S : World → Prop}
def runsU (P : Program) (ops : Array Oper) (S : World → Prop) (K : Act → World → Prop) : List Nat → Act → World → Prop
  | [], a, w => K a w
  | j :: r, a, w => ∃ o, ops[j]? = some o ∧ o.guard = none ∧ (Upon P (fun v w' => S w' ∧ runsU P ops S K r (a.put o.dst v) w') ((execOp a.eval o).run P w) ∨ ∃ w', (execOp a.eval o).run P w = .ok .skip w' ∧ S w' ∧ runsU P ops S K r (a.put o.dst undef) w')
theorem sequ_of : ∀ (st : List Nat) (l : Array Bool) (a : Act) (w : World), seqS md ops st l = true → runsU P ops S (Q .normal) st a w → wpAnyH P md ops Q S st.length l a w
  | [], l, a, w, hok, h => wpAnyH_done (by simpa [seqS] using hok) h 0
  | j :: r, l, a, w, hok, h => by
    simp only [seqS, Bool.and_eq_true, beq_iff_eq] at hok
    obtain ⟨o, ho, hg, hrun⟩ := h
    refine wpAnyH_all hok.1 (by simp) fun i hi => ?_
    obtain rfl : i = j := by simpa using hi
    rcases hrun with hrun | ⟨w', hrun, hS', hr⟩
    · exact wpOp_upon ho hg hrun fun v w' hJ => ⟨hJ.1, sequ_of r _ _ _ hok.2 hJ.2⟩
    · unfold wpOp
      simp only [ho, wanted_of hg, if_true]
      refine .inl ?_
      unfold Oper.wp
      rw [hrun]
      exact ⟨hS', sequ_of r _ _ _ hok.2 hr⟩
theorem runsU_mono {K K2 : Act → World → Prop} (hK : ∀ a w, K a w → K2 a w) : ∀ (st : List Nat) (a : Act) (w : World), runsU P ops S K st a w → runsU P ops S K2 st a w
  | [], a, w, h => hK a w h
  | j :: st, a, w, h => by
    obtain ⟨o, e1, e2, e3⟩ := h
    refine ⟨o, e1, e2, ?_⟩
    rcases e3 with e3 | ⟨w', h1, h2, h3⟩
    · exact .inl (Upon.imp e3 fun v w' hv => ⟨hv.1, runsU_mono hK st _ _ hv.2⟩)
    · exact .inr ⟨w', h1, h2, runsU_mono hK st _ _ h3⟩
theorem u_val {K : Act → World → Prop} {j : Nat} {r : List Nat} {a : Act} {w w' : World} {o : Oper} {v : Value} (ho : ops[j]? = some o) (hg : o.guard = none) (he : (execOp a.eval o).run P w = .ok (.value v) w') (hS : S w') (hr : runsU P ops S K r (a.put o.dst v) w') : runsU P ops S K (j :: r) a w :=
  ⟨o, ho, hg, .inl (by rw [he]; exact ⟨hS, hr⟩)⟩
theorem u_skip {K : Act → World → Prop} {j : Nat} {r : List Nat} {a : Act} {w w' : World} {o : Oper} (ho : ops[j]? = some o) (hg : o.guard = none) (he : (execOp a.eval o).run P w = .ok .skip w') (hS : S w') (hr : runsU P ops S K r (a.put o.dst undef) w') : runsU P ops S K (j :: r) a w :=
  ⟨o, ho, hg, .inr ⟨w', he, hS, hr⟩⟩
theorem u_call {K : Act → World → Prop} {j : Nat} {r : List Nat} {a : Act} {w : World} {o : Oper} {f : FuncId} {args : Array Value} (ho : ops[j]? = some o) (hg : o.guard = none) (he : (execOp a.eval o).run P w = .ok (.enter f args) w)
    (hc : Calls P f args w (fun e w' => ∃ v, e = .returned v ∧ S w' ∧ runsU P ops S K r (a.put o.dst v) w')) : runsU P ops S K (j :: r) a w :=
  ⟨o, ho, hg, .inl (Upon.enter he hc)⟩
/-- THE LAW. -/
theorem region_seq {id : Nat} {a : Act} {w : World} (r st : List Nat) (hm : P.follows .mixedOrders = true)
    (hok : okPJ .any ops [] st r (Array.replicate ops.size false) = true) (hlen : ops.size = r.length + (0 + st.length)) (hsel : Region.noSelect ops = true)
    (S : World → Prop) (hc : ∀ w', BI w w' → S w')
    (h : pureJ P ops S (fun b => ∀ w', BI w w' → runsU P ops S (Q .normal) st b w') r a) : (Code.region id ops true).wp P Q a w := by
  refine wp_region_noPanic (wp_region_held hm (S := S) ?_)
  have k := pures_of (md := .any) (Q := NoPanic Q) (S := S) (I := BI w) (js := []) (st := st) hsel (fun _ _ _ _ _ h => h) hc (K := fun b => ∀ w', BI w w' → runsU P ops S (Q .normal) st b w') (fun b w' l hK hI hok => by
    simp only [List.length_nil, okJ, Bool.and_eq_true] at hok
    rw [List.length_nil, Nat.zero_add]
    exact sequ_of st l b w' hok.2 (runsU_mono (fun a w h => NoPanic.normal h) st _ _ (hK w' hI))) r _ a _ hok (BI.start w) h
  simp only [List.length_nil] at k
  rw [← hlen] at k; exact k
end
end Go.Proofs.Yteccbcbijfcpmaa.cards

