/- Cards as four numbers: what the law's, the model's and the program's functions on one card and on two return. -/
import Derived.Test.YtnibkipepmakgaaProg
import Derived.WalkKit
import Derived.ProofKit
import Derived.Handy
import Derived.Outline
import Derived.LoopTactic
import Derived.RegionTactic
import Derived.BigQuiet
import Derived.Deep.QuietTactic
import Derived.Lib.QuietBelow
import Derived.Lib.Hide
namespace Go.Proofs.Ytnibkipepmakgaa.cards
open Go.RowKit
set_option linter.unusedVariables false

/-- A card as four numbers. -/
structure Cd where
  a : Int
  b : Int
  c : Int
  d : Int
def Cd.cells (x : Cd) : List Value := [.int .i64 x.a, .int .i64 x.b, .int .i64 x.c, .int .i64 x.d]
abbrev Cd.val (x : Cd) : Value := .agg #[.int .i64 x.a, .int .i64 x.b, .int .i64 x.c, .int .i64 x.d]
def Cd.ok (x : Cd) : Bool := decide ((0 ≤ x.a ∧ x.a ≤ 2) ∧ (0 ≤ x.b ∧ x.b ≤ 2) ∧ (0 ≤ x.c ∧ x.c ≤ 2) ∧ (0 ≤ x.d ∧ x.d ≤ 2))
abbrev Cd.obj (x : Cd) : Obj := .cells #[.int .i64 x.a, .int .i64 x.b, .int .i64 x.c, .int .i64 x.d] 54
/-- The card of zeros, which a failing function returns. -/
abbrev zero : Cd := ⟨0, 0, 0, 0⟩
/-- Are two cards the same? -/
def same (x y : Cd) : Bool := decide (x.a = y.a ∧ x.b = y.b ∧ x.c = y.c ∧ x.d = y.d)
/-- The number of a card. -/
def num (x : Cd) : Int := 27 * x.a + 9 * x.b + 3 * x.c + x.d
/-- The card with a number. -/
def cdAt (n : Int) : Cd := ⟨n / 27, n / 9 % 3, n / 3 % 3, n % 3⟩
/-- The third card of two. -/
def third (x y : Cd) : Cd := ⟨(6 - x.a - y.a) % 3, (6 - x.b - y.b) % 3, (6 - x.c - y.c) % 3, (6 - x.d - y.d) % 3⟩
def one (b : Bool) : Int := if b then 1 else 0
/-- In how many traits two cards differ. -/
def dif (x y : Cd) : Int := one (decide (x.a ≠ y.a)) + one (decide (x.b ≠ y.b)) + one (decide (x.c ≠ y.c)) + one (decide (x.d ≠ y.d))
/-- Are three cards a line? -/
def line (x y z : Cd) : Bool := !same x y && same (third x y) z
theorem ret_bool {a b : Bool} (h : a = b) : Ending.returned (.bool a) = .returned (.bool b) := by rw [h]
theorem ret_int {k : IntKind} {a b : Int} (h : a = b) : Ending.returned (.int k a) = .returned (.int k b) := by rw [h]
theorem Cd.bd {x : Cd} (h : x.ok = true) : (0 ≤ x.a ∧ x.a ≤ 2) ∧ (0 ≤ x.b ∧ x.b ≤ 2) ∧ (0 ≤ x.c ∧ x.c ≤ 2) ∧ (0 ≤ x.d ∧ x.d ≤ 2) := by unfold Cd.ok at h; exact of_decide_eq_true h
theorem Cd.mk_ok {x : Cd} (h : (0 ≤ x.a ∧ x.a ≤ 2) ∧ (0 ≤ x.b ∧ x.b ≤ 2) ∧ (0 ≤ x.c ∧ x.c ≤ 2) ∧ (0 ≤ x.d ∧ x.d ≤ 2)) : x.ok = true := by unfold Cd.ok; exact decide_eq_true h
theorem third_ok (x y : Cd) : (third x y).ok = true := Cd.mk_ok (by unfold third; simp only; omega)
theorem bdN {B : Nat} {a w : World} (h : Below B a w) (n : Nat) : Below B a (w.drewN n) := ⟨h.os, h.tape, h.output, h.size, h.block⟩
theorem same_1 {x y : Cd} (h : (x.a != y.a) = true) : false = same x y := by unfold same; simp at h ⊢; omega
theorem same_2 {x y : Cd} (h : (x.b != y.b) = true) : false = same x y := by unfold same; simp at h ⊢; omega
theorem same_3 {x y : Cd} (h : (x.c != y.c) = true) : false = same x y := by unfold same; simp at h ⊢; omega
theorem same_4 {x y : Cd} (h : (x.d != y.d) = true) : false = same x y := by unfold same; simp at h ⊢; omega
theorem same_5 {x y : Cd} (h : (x.a != y.a) = false) (h2 : (x.b != y.b) = false) (h3 : (x.c != y.c) = false) (h4 : (x.d != y.d) = false) : true = same x y := by unfold same; simp at h h2 h3 h4 ⊢; omega
/-- One call more. -/
theorem chain0 {w W w1 : World} (h : Below w.heap.size w W) (b : Below W.heap.size W w1) : Below w.heap.size w w1 := h.trans (b.mono h.size)
/-- Block g holds just a card. -/
def Box (w : World) (g : Nat) (x : Cd) : Prop := w.heap[g]? = some x.obj
theorem Box.lt {w : World} {g : Nat} {x : Cd} (h : Box w g x) : g < w.heap.size := by
  rcases Nat.lt_or_ge g w.heap.size with h1 | h1
  · exact h1
  · unfold Box at h; rw [Array.getElem?_eq_none h1] at h; cases h
theorem Box.new (w : World) (x : Cd) : Box (w.alloc x.obj) w.heap.size x := heap_alloc_new w _
theorem Box.newAt {w : World} {g : Nat} {x : Cd} {o : Obj} (h : w.heap.size = g) (ho : o = x.obj) : Box (w.alloc o) g x := by subst h; subst ho; exact Box.new w x
theorem Box.alloc {w : World} {g : Nat} {x : Cd} (h : Box w g x) (o : Obj) : Box (w.alloc o) g x := (Below.heap_alloc w o g h.lt).trans h
theorem Box.drew {w : World} {g : Nat} {x : Cd} (h : Box w g x) : Box w.drew g x := h
theorem Box.drewN {w : World} {g : Nat} {x : Cd} (h : Box w g x) (n : Nat) : Box (w.drewN n) g x := h
theorem Box.below {w w1 : World} {g : Nat} {x : Cd} (h : Box w g x) (b : Below w.heap.size w w1) : Box w1 g x := (b.block g h.lt).trans h
theorem Box.cell {w : World} {g : Nat} {x : Cd} (h : Box w g x) : w.cell? ⟨g, 0, none⟩ = some (.int .i64 x.a) ∧ w.cell? ⟨g, 1, none⟩ = some (.int .i64 x.b) ∧ w.cell? ⟨g, 2, none⟩ = some (.int .i64 x.c) ∧ w.cell? ⟨g, 3, none⟩ = some (.int .i64 x.d) := by
  unfold Box at h
  exact ⟨by rw [cell_of_row w g 0 _ _ _ h]; rfl, by rw [cell_of_row w g 1 _ _ _ h]; rfl, by rw [cell_of_row w g 2 _ _ _ h]; rfl, by rw [cell_of_row w g 3 _ _ _ h]; rfl⟩
theorem Box.frozen {w : World} {g : Nat} {x : Cd} (h : Box w g x) : ∀ i, w.frozen? ⟨g, i, none⟩ = false := fun i => frozen_of_row w g i _ _ h
/-- What was there when a callee began, its cells and its marks. -/
theorem kept {W w1 : World} (hb : Below W.heap.size W w1) : (∀ b o, b < W.heap.size → w1.cell? ⟨b, o, none⟩ = W.cell? ⟨b, o, none⟩) ∧ (∀ b o, b < W.heap.size → w1.frozen? ⟨b, o, none⟩ = W.frozen? ⟨b, o, none⟩) :=
  ⟨fun b o h => hb.cell (p := ⟨b, o, none⟩) h, fun b o h => hb.frozen (p := ⟨b, o, none⟩) h⟩

set_option maxRecDepth 100000 in
set_option maxHeartbeats 1000000 in
theorem is_card (x : Cd) (w : World) :
    Calls Try.prog 51 #[x.val] w fun e w' => e = .returned (.bool x.ok) ∧ Below w.heap.size w w' := by
  have i0 : ∀ w : World, (Instr.index 54 x.val (.int .i64 0)).run Try.prog w = .ok (.int .i64 x.a) w := fun _ => by kernel_rfl
  have i1 : ∀ w : World, (Instr.index 54 x.val (.int .i64 1)).run Try.prog w = .ok (.int .i64 x.b) w := fun _ => by kernel_rfl
  have i2 : ∀ w : World, (Instr.index 54 x.val (.int .i64 2)).run Try.prog w = .ok (.int .i64 x.c) w := fun _ => by kernel_rfl
  have i3 : ∀ w : World, (Instr.index 54 x.val (.int .i64 3)).run Try.prog w = .ok (.int .i64 x.d) w := fun _ => by kernel_rfl
  go_enter Try.func51, Try.ntmps51
  go_wp2
  go_rounds 5
  all_goals go_ret
  all_goals exact ⟨ret_bool (by unfold Cd.ok; simp; omega), (Below.refl _ _).alloc (Nat.le_refl _) _⟩

set_option maxRecDepth 100000 in
set_option maxHeartbeats 1000000 in
theorem l2_card (x : Cd) (w : World) :
    Calls Try.prog 43 #[x.val] w fun e w' => e = .returned (.bool x.ok) ∧ Below w.heap.size w w' := by
  go_enter Try.func43, Try.ntmps43
  go_wp2
  go_rounds 5
  all_goals (try simp only [Bool.not_eq_true', Bool.not_eq_false', decide_eq_true_eq, decide_eq_false_iff_not] at *)
  all_goals go_ret
  all_goals exact ⟨ret_bool (by unfold Cd.ok; simp; omega), (Below.refl _ _).alloc (Nat.le_refl _) _⟩

set_option maxRecDepth 100000 in
set_option maxHeartbeats 1000000 in
theorem l2_third (x y : Cd) (w : World) (hx : x.ok = true) (hy : y.ok = true) :
    Calls Try.prog 30 #[x.val, y.val] w fun e w' => e = .returned (third x y).val ∧ Below w.heap.size w w' := by
  obtain ⟨⟨x1, x2⟩, ⟨x3, x4⟩, ⟨x5, x6⟩, x7, x8⟩ := Cd.bd hx
  obtain ⟨⟨y1, y2⟩, ⟨y3, y4⟩, ⟨y5, y6⟩, y7, y8⟩ := Cd.bd hy
  clear hx hy
  go_enter Try.func30, Try.ntmps30
  go_wp2
  refine wp_loop_rounds 5 ?_
  iterate 4 (rw [rounds_succ]; go_wp2; go_region; go_wp2)
  rw [rounds_succ]
  go_wp2
  exact bodyPost_ret (v := (third x y).val) (by simp [results, Try.results30, go_sem, third]) rfl ⟨rfl, by repeat (first | with_reducible exact Below.refl _ _ | with_reducible exact HB.out | with_reducible apply Below.drew | with_reducible apply bdN | with_reducible refine Below.alloc ?_ (by first | exact Nat.le_refl _ | with_reducible exact HB.out.size | omega | (simp; done) | (simp; omega) | (have := HB.out.size; simp at *; omega)) _ | with_reducible refine Below.setCell ?_ (by first | exact Nat.le_refl _ | with_reducible exact HB.out.size | omega | (simp; done) | (simp; omega) | (have := HB.out.size; simp at *; omega)) _)⟩

set_option maxRecDepth 100000 in
set_option maxHeartbeats 1000000 in
theorem third_of (x y : Cd) (w : World) (hx : x.ok = true) (hy : y.ok = true) :
    Calls Try.prog 34 #[x.val, y.val] w fun e w' => e = .returned (third x y).val ∧ Below w.heap.size w w' := by
  obtain ⟨⟨x1, x2⟩, ⟨x3, x4⟩, ⟨x5, x6⟩, x7, x8⟩ := Cd.bd hx
  obtain ⟨⟨y1, y2⟩, ⟨y3, y4⟩, ⟨y5, y6⟩, y7, y8⟩ := Cd.bd hy
  clear hx hy
  go_enter Try.func34, Try.ntmps34
  go_wp2
  refine wp_loop_rounds 5 ?_
  iterate 4 (rw [rounds_succ]; go_wp2; go_region; go_wp2)
  rw [rounds_succ]
  go_wp2
  exact bodyPost_ret (v := (third x y).val) (by simp [results, Try.results34, go_sem, third]) rfl ⟨rfl, by repeat (first | with_reducible exact Below.refl _ _ | with_reducible exact HB.out | with_reducible apply Below.drew | with_reducible apply bdN | with_reducible refine Below.alloc ?_ (by first | exact Nat.le_refl _ | with_reducible exact HB.out.size | omega | (simp; done) | (simp; omega) | (have := HB.out.size; simp at *; omega)) _ | with_reducible refine Below.setCell ?_ (by first | exact Nat.le_refl _ | with_reducible exact HB.out.size | omega | (simp; done) | (simp; omega) | (have := HB.out.size; simp at *; omega)) _)⟩
end Go.Proofs.Ytnibkipepmakgaa.cards