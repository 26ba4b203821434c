/- Maps: a Map that the law makes, and two that it compares; what a function returns whose result is a Map. -/
import Derived.Test.YtfbcjcfhdclklaaMd
import Derived.Deep.MidRow
import Derived.OwnWalk
import Derived.Maps.AppendAt
namespace Go.Proofs.Ytfbcjcfhdclklaa.maps
open Go.RowKit
open cards
set_option linter.unusedVariables false

abbrev zeroM : Mp := ⟨zero, zero3, zero3, zero3, zero3⟩
theorem MBox.set1 {w : World} {g : Nat} {T : TypeId} {x : Mp} (h : MBox w g ⟨T, x⟩) (i : Nat) (v : Value) (y : Mp) (hv : x.vals.set! i v = y.vals) : MBox (w.setCell ⟨g, i, none⟩ v) g ⟨T, y⟩ := by
  unfold MBox at h ⊢
  rw [heap_setCell_same _ g i _ _ _ h]
  show some (Obj.cells (x.vals.set! i v) T) = some (Obj.cells y.vals T)
  rw [hv]
theorem MBox.setT {w : World} {g : Nat} {T : TypeId} {x : Mp} (h : MBox w g ⟨T, x⟩) (y : Mp) : MBox ((((w.setCell ⟨g, 0, none⟩ (.int .i64 y.t.a)).setCell ⟨g, 1, none⟩ (.int .i64 y.t.b)).setCell ⟨g, 2, none⟩ (.int .i64 y.t.c)).setCell ⟨g, 3, none⟩ (.int .i64 y.t.d)) g ⟨T, ⟨y.t, x.v0, x.v1, x.v2, x.v3⟩⟩ := by
  have h0 := MBox.set1 h 0 (.int .i64 y.t.a) ⟨⟨y.t.a, x.t.b, x.t.c, x.t.d⟩, ⟨x.v0.a, x.v0.b, x.v0.c⟩, ⟨x.v1.a, x.v1.b, x.v1.c⟩, ⟨x.v2.a, x.v2.b, x.v2.c⟩, ⟨x.v3.a, x.v3.b, x.v3.c⟩⟩ rfl
  have h1 := MBox.set1 h0 1 (.int .i64 y.t.b) ⟨⟨y.t.a, y.t.b, x.t.c, x.t.d⟩, ⟨x.v0.a, x.v0.b, x.v0.c⟩, ⟨x.v1.a, x.v1.b, x.v1.c⟩, ⟨x.v2.a, x.v2.b, x.v2.c⟩, ⟨x.v3.a, x.v3.b, x.v3.c⟩⟩ rfl
  have h2 := MBox.set1 h1 2 (.int .i64 y.t.c) ⟨⟨y.t.a, y.t.b, y.t.c, x.t.d⟩, ⟨x.v0.a, x.v0.b, x.v0.c⟩, ⟨x.v1.a, x.v1.b, x.v1.c⟩, ⟨x.v2.a, x.v2.b, x.v2.c⟩, ⟨x.v3.a, x.v3.b, x.v3.c⟩⟩ rfl
  have h3 := MBox.set1 h2 3 (.int .i64 y.t.d) ⟨⟨y.t.a, y.t.b, y.t.c, y.t.d⟩, ⟨x.v0.a, x.v0.b, x.v0.c⟩, ⟨x.v1.a, x.v1.b, x.v1.c⟩, ⟨x.v2.a, x.v2.b, x.v2.c⟩, ⟨x.v3.a, x.v3.b, x.v3.c⟩⟩ rfl
  exact h3
theorem MBox.setRows {w : World} {g : Nat} {T : TypeId} {x : Mp} (h : MBox w g ⟨T, x⟩) (y : Mp) : MBox ((((((((((((w.setCell ⟨g, 4, none⟩ (.int .i64 y.v0.a)).setCell ⟨g, 5, none⟩ (.int .i64 y.v0.b)).setCell ⟨g, 6, none⟩ (.int .i64 y.v0.c)).setCell ⟨g, 7, none⟩ (.int .i64 y.v1.a)).setCell ⟨g, 8, none⟩ (.int .i64 y.v1.b)).setCell ⟨g, 9, none⟩ (.int .i64 y.v1.c)).setCell ⟨g, 10, none⟩ (.int .i64 y.v2.a)).setCell ⟨g, 11, none⟩ (.int .i64 y.v2.b)).setCell ⟨g, 12, none⟩ (.int .i64 y.v2.c)).setCell ⟨g, 13, none⟩ (.int .i64 y.v3.a)).setCell ⟨g, 14, none⟩ (.int .i64 y.v3.b)).setCell ⟨g, 15, none⟩ (.int .i64 y.v3.c)) g ⟨T, ⟨x.t, y.v0, y.v1, y.v2, y.v3⟩⟩ := by
  have h0 := MBox.set1 h 4 (.int .i64 y.v0.a) ⟨⟨x.t.a, x.t.b, x.t.c, x.t.d⟩, ⟨y.v0.a, x.v0.b, x.v0.c⟩, ⟨x.v1.a, x.v1.b, x.v1.c⟩, ⟨x.v2.a, x.v2.b, x.v2.c⟩, ⟨x.v3.a, x.v3.b, x.v3.c⟩⟩ rfl
  have h1 := MBox.set1 h0 5 (.int .i64 y.v0.b) ⟨⟨x.t.a, x.t.b, x.t.c, x.t.d⟩, ⟨y.v0.a, y.v0.b, x.v0.c⟩, ⟨x.v1.a, x.v1.b, x.v1.c⟩, ⟨x.v2.a, x.v2.b, x.v2.c⟩, ⟨x.v3.a, x.v3.b, x.v3.c⟩⟩ rfl
  have h2 := MBox.set1 h1 6 (.int .i64 y.v0.c) ⟨⟨x.t.a, x.t.b, x.t.c, x.t.d⟩, ⟨y.v0.a, y.v0.b, y.v0.c⟩, ⟨x.v1.a, x.v1.b, x.v1.c⟩, ⟨x.v2.a, x.v2.b, x.v2.c⟩, ⟨x.v3.a, x.v3.b, x.v3.c⟩⟩ rfl
  have h3 := MBox.set1 h2 7 (.int .i64 y.v1.a) ⟨⟨x.t.a, x.t.b, x.t.c, x.t.d⟩, ⟨y.v0.a, y.v0.b, y.v0.c⟩, ⟨y.v1.a, x.v1.b, x.v1.c⟩, ⟨x.v2.a, x.v2.b, x.v2.c⟩, ⟨x.v3.a, x.v3.b, x.v3.c⟩⟩ rfl
  have h4 := MBox.set1 h3 8 (.int .i64 y.v1.b) ⟨⟨x.t.a, x.t.b, x.t.c, x.t.d⟩, ⟨y.v0.a, y.v0.b, y.v0.c⟩, ⟨y.v1.a, y.v1.b, x.v1.c⟩, ⟨x.v2.a, x.v2.b, x.v2.c⟩, ⟨x.v3.a, x.v3.b, x.v3.c⟩⟩ rfl
  have h5 := MBox.set1 h4 9 (.int .i64 y.v1.c) ⟨⟨x.t.a, x.t.b, x.t.c, x.t.d⟩, ⟨y.v0.a, y.v0.b, y.v0.c⟩, ⟨y.v1.a, y.v1.b, y.v1.c⟩, ⟨x.v2.a, x.v2.b, x.v2.c⟩, ⟨x.v3.a, x.v3.b, x.v3.c⟩⟩ rfl
  have h6 := MBox.set1 h5 10 (.int .i64 y.v2.a) ⟨⟨x.t.a, x.t.b, x.t.c, x.t.d⟩, ⟨y.v0.a, y.v0.b, y.v0.c⟩, ⟨y.v1.a, y.v1.b, y.v1.c⟩, ⟨y.v2.a, x.v2.b, x.v2.c⟩, ⟨x.v3.a, x.v3.b, x.v3.c⟩⟩ rfl
  have h7 := MBox.set1 h6 11 (.int .i64 y.v2.b) ⟨⟨x.t.a, x.t.b, x.t.c, x.t.d⟩, ⟨y.v0.a, y.v0.b, y.v0.c⟩, ⟨y.v1.a, y.v1.b, y.v1.c⟩, ⟨y.v2.a, y.v2.b, x.v2.c⟩, ⟨x.v3.a, x.v3.b, x.v3.c⟩⟩ rfl
  have h8 := MBox.set1 h7 12 (.int .i64 y.v2.c) ⟨⟨x.t.a, x.t.b, x.t.c, x.t.d⟩, ⟨y.v0.a, y.v0.b, y.v0.c⟩, ⟨y.v1.a, y.v1.b, y.v1.c⟩, ⟨y.v2.a, y.v2.b, y.v2.c⟩, ⟨x.v3.a, x.v3.b, x.v3.c⟩⟩ rfl
  have h9 := MBox.set1 h8 13 (.int .i64 y.v3.a) ⟨⟨x.t.a, x.t.b, x.t.c, x.t.d⟩, ⟨y.v0.a, y.v0.b, y.v0.c⟩, ⟨y.v1.a, y.v1.b, y.v1.c⟩, ⟨y.v2.a, y.v2.b, y.v2.c⟩, ⟨y.v3.a, x.v3.b, x.v3.c⟩⟩ rfl
  have h10 := MBox.set1 h9 14 (.int .i64 y.v3.b) ⟨⟨x.t.a, x.t.b, x.t.c, x.t.d⟩, ⟨y.v0.a, y.v0.b, y.v0.c⟩, ⟨y.v1.a, y.v1.b, y.v1.c⟩, ⟨y.v2.a, y.v2.b, y.v2.c⟩, ⟨y.v3.a, y.v3.b, x.v3.c⟩⟩ rfl
  have h11 := MBox.set1 h10 15 (.int .i64 y.v3.c) ⟨⟨x.t.a, x.t.b, x.t.c, x.t.d⟩, ⟨y.v0.a, y.v0.b, y.v0.c⟩, ⟨y.v1.a, y.v1.b, y.v1.c⟩, ⟨y.v2.a, y.v2.b, y.v2.c⟩, ⟨y.v3.a, y.v3.b, y.v3.c⟩⟩ rfl
  exact h11
theorem MBox.setAll {w : World} {g : Nat} {T : TypeId} {x : Mp} (h : MBox w g ⟨T, x⟩) (y : Mp) : MBox ((((((((((((((((w.setCell ⟨g, 0, none⟩ (.int .i64 y.t.a)).setCell ⟨g, 1, none⟩ (.int .i64 y.t.b)).setCell ⟨g, 2, none⟩ (.int .i64 y.t.c)).setCell ⟨g, 3, none⟩ (.int .i64 y.t.d)).setCell ⟨g, 4, none⟩ (.int .i64 y.v0.a)).setCell ⟨g, 5, none⟩ (.int .i64 y.v0.b)).setCell ⟨g, 6, none⟩ (.int .i64 y.v0.c)).setCell ⟨g, 7, none⟩ (.int .i64 y.v1.a)).setCell ⟨g, 8, none⟩ (.int .i64 y.v1.b)).setCell ⟨g, 9, none⟩ (.int .i64 y.v1.c)).setCell ⟨g, 10, none⟩ (.int .i64 y.v2.a)).setCell ⟨g, 11, none⟩ (.int .i64 y.v2.b)).setCell ⟨g, 12, none⟩ (.int .i64 y.v2.c)).setCell ⟨g, 13, none⟩ (.int .i64 y.v3.a)).setCell ⟨g, 14, none⟩ (.int .i64 y.v3.b)).setCell ⟨g, 15, none⟩ (.int .i64 y.v3.c)) g ⟨T, y⟩ := by
  have h0 := MBox.set1 h 0 (.int .i64 y.t.a) ⟨⟨y.t.a, x.t.b, x.t.c, x.t.d⟩, ⟨x.v0.a, x.v0.b, x.v0.c⟩, ⟨x.v1.a, x.v1.b, x.v1.c⟩, ⟨x.v2.a, x.v2.b, x.v2.c⟩, ⟨x.v3.a, x.v3.b, x.v3.c⟩⟩ rfl
  have h1 := MBox.set1 h0 1 (.int .i64 y.t.b) ⟨⟨y.t.a, y.t.b, x.t.c, x.t.d⟩, ⟨x.v0.a, x.v0.b, x.v0.c⟩, ⟨x.v1.a, x.v1.b, x.v1.c⟩, ⟨x.v2.a, x.v2.b, x.v2.c⟩, ⟨x.v3.a, x.v3.b, x.v3.c⟩⟩ rfl
  have h2 := MBox.set1 h1 2 (.int .i64 y.t.c) ⟨⟨y.t.a, y.t.b, y.t.c, x.t.d⟩, ⟨x.v0.a, x.v0.b, x.v0.c⟩, ⟨x.v1.a, x.v1.b, x.v1.c⟩, ⟨x.v2.a, x.v2.b, x.v2.c⟩, ⟨x.v3.a, x.v3.b, x.v3.c⟩⟩ rfl
  have h3 := MBox.set1 h2 3 (.int .i64 y.t.d) ⟨⟨y.t.a, y.t.b, y.t.c, y.t.d⟩, ⟨x.v0.a, x.v0.b, x.v0.c⟩, ⟨x.v1.a, x.v1.b, x.v1.c⟩, ⟨x.v2.a, x.v2.b, x.v2.c⟩, ⟨x.v3.a, x.v3.b, x.v3.c⟩⟩ rfl
  have h4 := MBox.set1 h3 4 (.int .i64 y.v0.a) ⟨⟨y.t.a, y.t.b, y.t.c, y.t.d⟩, ⟨y.v0.a, x.v0.b, x.v0.c⟩, ⟨x.v1.a, x.v1.b, x.v1.c⟩, ⟨x.v2.a, x.v2.b, x.v2.c⟩, ⟨x.v3.a, x.v3.b, x.v3.c⟩⟩ rfl
  have h5 := MBox.set1 h4 5 (.int .i64 y.v0.b) ⟨⟨y.t.a, y.t.b, y.t.c, y.t.d⟩, ⟨y.v0.a, y.v0.b, x.v0.c⟩, ⟨x.v1.a, x.v1.b, x.v1.c⟩, ⟨x.v2.a, x.v2.b, x.v2.c⟩, ⟨x.v3.a, x.v3.b, x.v3.c⟩⟩ rfl
  have h6 := MBox.set1 h5 6 (.int .i64 y.v0.c) ⟨⟨y.t.a, y.t.b, y.t.c, y.t.d⟩, ⟨y.v0.a, y.v0.b, y.v0.c⟩, ⟨x.v1.a, x.v1.b, x.v1.c⟩, ⟨x.v2.a, x.v2.b, x.v2.c⟩, ⟨x.v3.a, x.v3.b, x.v3.c⟩⟩ rfl
  have h7 := MBox.set1 h6 7 (.int .i64 y.v1.a) ⟨⟨y.t.a, y.t.b, y.t.c, y.t.d⟩, ⟨y.v0.a, y.v0.b, y.v0.c⟩, ⟨y.v1.a, x.v1.b, x.v1.c⟩, ⟨x.v2.a, x.v2.b, x.v2.c⟩, ⟨x.v3.a, x.v3.b, x.v3.c⟩⟩ rfl
  have h8 := MBox.set1 h7 8 (.int .i64 y.v1.b) ⟨⟨y.t.a, y.t.b, y.t.c, y.t.d⟩, ⟨y.v0.a, y.v0.b, y.v0.c⟩, ⟨y.v1.a, y.v1.b, x.v1.c⟩, ⟨x.v2.a, x.v2.b, x.v2.c⟩, ⟨x.v3.a, x.v3.b, x.v3.c⟩⟩ rfl
  have h9 := MBox.set1 h8 9 (.int .i64 y.v1.c) ⟨⟨y.t.a, y.t.b, y.t.c, y.t.d⟩, ⟨y.v0.a, y.v0.b, y.v0.c⟩, ⟨y.v1.a, y.v1.b, y.v1.c⟩, ⟨x.v2.a, x.v2.b, x.v2.c⟩, ⟨x.v3.a, x.v3.b, x.v3.c⟩⟩ rfl
  have h10 := MBox.set1 h9 10 (.int .i64 y.v2.a) ⟨⟨y.t.a, y.t.b, y.t.c, y.t.d⟩, ⟨y.v0.a, y.v0.b, y.v0.c⟩, ⟨y.v1.a, y.v1.b, y.v1.c⟩, ⟨y.v2.a, x.v2.b, x.v2.c⟩, ⟨x.v3.a, x.v3.b, x.v3.c⟩⟩ rfl
  have h11 := MBox.set1 h10 11 (.int .i64 y.v2.b) ⟨⟨y.t.a, y.t.b, y.t.c, y.t.d⟩, ⟨y.v0.a, y.v0.b, y.v0.c⟩, ⟨y.v1.a, y.v1.b, y.v1.c⟩, ⟨y.v2.a, y.v2.b, x.v2.c⟩, ⟨x.v3.a, x.v3.b, x.v3.c⟩⟩ rfl
  have h12 := MBox.set1 h11 12 (.int .i64 y.v2.c) ⟨⟨y.t.a, y.t.b, y.t.c, y.t.d⟩, ⟨y.v0.a, y.v0.b, y.v0.c⟩, ⟨y.v1.a, y.v1.b, y.v1.c⟩, ⟨y.v2.a, y.v2.b, y.v2.c⟩, ⟨x.v3.a, x.v3.b, x.v3.c⟩⟩ rfl
  have h13 := MBox.set1 h12 13 (.int .i64 y.v3.a) ⟨⟨y.t.a, y.t.b, y.t.c, y.t.d⟩, ⟨y.v0.a, y.v0.b, y.v0.c⟩, ⟨y.v1.a, y.v1.b, y.v1.c⟩, ⟨y.v2.a, y.v2.b, y.v2.c⟩, ⟨y.v3.a, x.v3.b, x.v3.c⟩⟩ rfl
  have h14 := MBox.set1 h13 14 (.int .i64 y.v3.b) ⟨⟨y.t.a, y.t.b, y.t.c, y.t.d⟩, ⟨y.v0.a, y.v0.b, y.v0.c⟩, ⟨y.v1.a, y.v1.b, y.v1.c⟩, ⟨y.v2.a, y.v2.b, y.v2.c⟩, ⟨y.v3.a, y.v3.b, x.v3.c⟩⟩ rfl
  have h15 := MBox.set1 h14 15 (.int .i64 y.v3.c) ⟨⟨y.t.a, y.t.b, y.t.c, y.t.d⟩, ⟨y.v0.a, y.v0.b, y.v0.c⟩, ⟨y.v1.a, y.v1.b, y.v1.c⟩, ⟨y.v2.a, y.v2.b, y.v2.c⟩, ⟨y.v3.a, y.v3.b, y.v3.c⟩⟩ rfl
  exact h15
theorem load_map {w : World} {g : Nat} {T : TypeId} {m : Mp} (h : MBox w g ⟨T, m⟩) : (loadVar 86 ⟨g, 0, none⟩).run Try.prog w = .ok m.val w :=
  run_loadVar_row w g T 86 m.vals (0, 0) _ h Try.underlying86 rfl (by kernel_rfl)
/-- A whole Map is read out of its block: the program's type, the law's type. -/
theorem take_map {ops : Array Oper} {rest : List Oper} {o : Oper} {a : Act} {w : World} {Q : Exit → Act → World → Prop} (hgd : o.guard = none) (x : Operand) (ho : o.op = .load 86 x) {g : Nat} {T : TypeId} {m : Mp} (h : MBox w g ⟨T, m⟩) (hx : a.eval x = .pointer (some ⟨g, 0, none⟩))
    (hk : wpList Try.prog ops Q rest (a.put o.dst m.val) w) : wpList Try.prog ops Q (o :: rest) a w :=
  wpList_load_row hgd 86 x ho g hx T m.vals (0, 0) _ h Try.underlying86 rfl (by kernel_rfl) hk
theorem grown_set (w : World) (g i : Nat) (v : Value) : w.grownBy (w.setCell ⟨g, i, none⟩ v) (some g) :=
  ⟨rfl, rfl, rfl, by simp [World.setCell], fun k hk hne => Below.heap_setCell _ _ _ _ (fun e => hne (by rw [e]))⟩
theorem grown_sets (g : Nat) : ∀ (vs : List Value) (o : Nat) (w : World), w.grownBy (w.setCells g o vs) (some g)
  | [], o, w => World.grownBy.refl w _
  | v :: r, o, w => World.grownBy.trans (grown_set w g o v) (grown_sets g r (o + 1) _)
theorem MBox.range {w : World} {g : Nat} {T : TypeId} {m : Mp} (h : MBox w g ⟨T, m⟩) : w.rangeAt g 0 m.vals.toList := fun j v hv => by
  rw [Nat.zero_add, h.cellI j]; simpa using hv
theorem MBox.there {w : World} {g : Nat} {T : TypeId} {m : Mp} (h : MBox w g ⟨T, m⟩) : w.there g 0 16 := fun j hj =>
  ⟨World.rangeAt.isSome h.range j hj, h.frozen _⟩
theorem MBox.stored {w : World} {g : Nat} {T : TypeId} {x : Mp} (h : MBox w g ⟨T, x⟩) (y : Mp) : MBox (w.setCells g 0 y.vals.toList) g ⟨T, y⟩ := MBox.setAll h y
/-- A whole Map is stored in a block. -/
theorem store_map {ops : Array Oper} {rest : List Oper} {o : Oper} {a : Act} {w : World} {Q : Exit → Act → World → Prop} (hgd : o.guard = none) (x y : Operand) (ho : o.op = .store 86 x y) {g : Nat} {T : TypeId} {z : Mp} (h : MBox w g ⟨T, z⟩) (hx : a.eval x = .pointer (some ⟨g, 0, none⟩))
    (m : Mp) (hy : a.eval y = m.val) (hk : ∀ w', MBox w' g ⟨T, m⟩ → w.grownBy w' (some g) → wpList Try.prog ops Q rest (a.put o.dst undef) w') : wpList Try.prog ops Q (o :: rest) a w :=
  wpList_store_mid hgd 86 x y ho g 0 m.vals hx hy h.there (by kernel_rfl) (by simp [Value.oneCell']) (hk _ (MBox.stored h m) (grown_sets g _ _ _))
theorem res_map {fn : Func} {i : Tmp} (hf : fn.results = #[.cell i 86]) {tmps : Array Value} {w : World} {g : Nat} {m : Mp} (ht : tmps.getD i undef = .pointer (some ⟨g, 0, none⟩)) (h : MBox w g ⟨86, m⟩) :
    (results fn tmps).run Try.prog w = .ok m.val w := by
  have hl := load_map h
  rw [Array.getD_eq_getD_getElem?] at ht
  simp only [results, hf]
  simp [Sem.run_bind, ht, asAddr, hl]
theorem res_map2 {fn : Func} {i u : Tmp} (hf : fn.results = #[.cell i 86, .tmp u]) {tmps : Array Value} {w : World} {g : Nat} {m : Mp} (ht : tmps.getD i undef = .pointer (some ⟨g, 0, none⟩)) (h : MBox w g ⟨86, m⟩) :
    (results fn tmps).run Try.prog w = .ok (.tuple #[m.val, tmps.getD u undef]) w := by
  have hl := load_map h
  rw [results_cell_tmp hf, ht]
  simp [asAddr, hl, Result.andThen]

end Go.Proofs.Ytfbcjcfhdclklaa.maps
