/- Maps: a Map that the law makes, and two that it compares; what a function returns whose result is a Map. -/
import Derived.Test.YtngfdfgeoieebaaMd
import Derived.Deep.MidRow
import Derived.OwnWalk
import Derived.Maps.AppendAt
namespace Go.Proofs.Ytngfdfgeoieebaa.maps
open Go.RowKit
open cards
set_option linter.unusedVariables false

abbrev zeroM : Mp := ⟨zero, zero3, zero3, zero3, zero3⟩
theorem MBox.set1 {w : World} {g : Nat} {T : TypeId} {x : Mp} (h : MBox w g ⟨T, x⟩) (i : Nat) (v : Value) (y : Mp) (hv : x.vals.set! i v = y.vals) : MBox (w.setCell ⟨g, i, none⟩ v) g ⟨T, y⟩ := by
  unfold MBox at h ⊢
  rw [heap_setCell_same _ g i _ _ _ h]
  show some (Obj.cells (x.vals.set! i v) T) = some (Obj.cells y.vals T)
  rw [hv]
theorem MBox.setT {w : World} {g : Nat} {T : TypeId} {x : Mp} (h : MBox w g ⟨T, x⟩) (y : Mp) : MBox ((((w.setCell ⟨g, 0, none⟩ (.int .i64 y.t.a)).setCell ⟨g, 1, none⟩ (.int .i64 y.t.b)).setCell ⟨g, 2, none⟩ (.int .i64 y.t.c)).setCell ⟨g, 3, none⟩ (.int .i64 y.t.d)) g ⟨T, ⟨y.t, x.v0, x.v1, x.v2, x.v3⟩⟩ := by
  have h0 := MBox.set1 h 0 (.int .i64 y.t.a) ⟨⟨y.t.a, x.t.b, x.t.c, x.t.d⟩, ⟨x.v0.a, x.v0.b, x.v0.c⟩, ⟨x.v1.a, x.v1.b, x.v1.c⟩, ⟨x.v2.a, x.v2.b, x.v2.c⟩, ⟨x.v3.a, x.v3.b, x.v3.c⟩⟩ rfl
  have h1 := MBox.set1 h0 1 (.int .i64 y.t.b) ⟨⟨y.t.a, y.t.b, x.t.c, x.t.d⟩, ⟨x.v0.a, x.v0.b, x.v0.c⟩, ⟨x.v1.a, x.v1.b, x.v1.c⟩, ⟨x.v2.a, x.v2.b, x.v2.c⟩, ⟨x.v3.a, x.v3.b, x.v3.c⟩⟩ rfl
  have h2 := MBox.set1 h1 2 (.int .i64 y.t.c) ⟨⟨y.t.a, y.t.b, y.t.c, x.t.d⟩, ⟨x.v0.a, x.v0.b, x.v0.c⟩, ⟨x.v1.a, x.v1.b, x.v1.c⟩, ⟨x.v2.a, x.v2.b, x.v2.c⟩, ⟨x.v3.a, x.v3.b, x.v3.c⟩⟩ rfl
  have h3 := MBox.set1 h2 3 (.int .i64 y.t.d) ⟨⟨y.t.a, y.t.b, y.t.c, y.t.d⟩, ⟨x.v0.a, x.v0.b, x.v0.c⟩, ⟨x.v1.a, x.v1.b, x.v1.c⟩, ⟨x.v2.a, x.v2.b, x.v2.c⟩, ⟨x.v3.a, x.v3.b, x.v3.c⟩⟩ rfl
  exact h3
theorem MBox.setRows {w : World} {g : Nat} {T : TypeId} {x : Mp} (h : MBox w g ⟨T, x⟩) (y : Mp) : MBox ((((((((((((w.setCell ⟨g, 4, none⟩ (.int .i64 y.v0.a)).setCell ⟨g, 5, none⟩ (.int .i64 y.v0.b)).setCell ⟨g, 6, none⟩ (.int .i64 y.v0.c)).setCell ⟨g, 7, none⟩ (.int .i64 y.v1.a)).setCell ⟨g, 8, none⟩ (.int .i64 y.v1.b)).setCell ⟨g, 9, none⟩ (.int .i64 y.v1.c)).setCell ⟨g, 10, none⟩ (.int .i64 y.v2.a)).setCell ⟨g, 11, none⟩ (.int .i64 y.v2.b)).setCell ⟨g, 12, none⟩ (.int .i64 y.v2.c)).setCell ⟨g, 13, none⟩ (.int .i64 y.v3.a)).setCell ⟨g, 14, none⟩ (.int .i64 y.v3.b)).setCell ⟨g, 15, none⟩ (.int .i64 y.v3.c)) g ⟨T, ⟨x.t, y.v0, y.v1, y.v2, y.v3⟩⟩ := by
  have h0 := MBox.set1 h 4 (.int .i64 y.v0.a) ⟨⟨x.t.a, x.t.b, x.t.c, x.t.d⟩, ⟨y.v0.a, x.v0.b, x.v0.c⟩, ⟨x.v1.a, x.v1.b, x.v1.c⟩, ⟨x.v2.a, x.v2.b, x.v2.c⟩, ⟨x.v3.a, x.v3.b, x.v3.c⟩⟩ rfl
  have h1 := MBox.set1 h0 5 (.int .i64 y.v0.b) ⟨⟨x.t.a, x.t.b, x.t.c, x.t.d⟩, ⟨y.v0.a, y.v0.b, x.v0.c⟩, ⟨x.v1.a, x.v1.b, x.v1.c⟩, ⟨x.v2.a, x.v2.b, x.v2.c⟩, ⟨x.v3.a, x.v3.b, x.v3.c⟩⟩ rfl
  have h2 := MBox.set1 h1 6 (.int .i64 y.v0.c) ⟨⟨x.t.a, x.t.b, x.t.c, x.t.d⟩, ⟨y.v0.a, y.v0.b, y.v0.c⟩, ⟨x.v1.a, x.v1.b, x.v1.c⟩, ⟨x.v2.a, x.v2.b, x.v2.c⟩, ⟨x.v3.a, x.v3.b, x.v3.c⟩⟩ rfl
  have h3 := MBox.set1 h2 7 (.int .i64 y.v1.a) ⟨⟨x.t.a, x.t.b, x.t.c, x.t.d⟩, ⟨y.v0.a, y.v0.b, y.v0.c⟩, ⟨y.v1.a, x.v1.b, x.v1.c⟩, ⟨x.v2.a, x.v2.b, x.v2.c⟩, ⟨x.v3.a, x.v3.b, x.v3.c⟩⟩ rfl
  have h4 := MBox.set1 h3 8 (.int .i64 y.v1.b) ⟨⟨x.t.a, x.t.b, x.t.c, x.t.d⟩, ⟨y.v0.a, y.v0.b, y.v0.c⟩, ⟨y.v1.a, y.v1.b, x.v1.c⟩, ⟨x.v2.a, x.v2.b, x.v2.c⟩, ⟨x.v3.a, x.v3.b, x.v3.c⟩⟩ rfl
  have h5 := MBox.set1 h4 9 (.int .i64 y.v1.c) ⟨⟨x.t.a, x.t.b, x.t.c, x.t.d⟩, ⟨y.v0.a, y.v0.b, y.v0.c⟩, ⟨y.v1.a, y.v1.b, y.v1.c⟩, ⟨x.v2.a, x.v2.b, x.v2.c⟩, ⟨x.v3.a, x.v3.b, x.v3.c⟩⟩ rfl
  have h6 := MBox.set1 h5 10 (.int .i64 y.v2.a) ⟨⟨x.t.a, x.t.b, x.t.c, x.t.d⟩, ⟨y.v0.a, y.v0.b, y.v0.c⟩, ⟨y.v1.a, y.v1.b, y.v1.c⟩, ⟨y.v2.a, x.v2.b, x.v2.c⟩, ⟨x.v3.a, x.v3.b, x.v3.c⟩⟩ rfl
  have h7 := MBox.set1 h6 11 (.int .i64 y.v2.b) ⟨⟨x.t.a, x.t.b, x.t.c, x.t.d⟩, ⟨y.v0.a, y.v0.b, y.v0.c⟩, ⟨y.v1.a, y.v1.b, y.v1.c⟩, ⟨y.v2.a, y.v2.b, x.v2.c⟩, ⟨x.v3.a, x.v3.b, x.v3.c⟩⟩ rfl
  have h8 := MBox.set1 h7 12 (.int .i64 y.v2.c) ⟨⟨x.t.a, x.t.b, x.t.c, x.t.d⟩, ⟨y.v0.a, y.v0.b, y.v0.c⟩, ⟨y.v1.a, y.v1.b, y.v1.c⟩, ⟨y.v2.a, y.v2.b, y.v2.c⟩, ⟨x.v3.a, x.v3.b, x.v3.c⟩⟩ rfl
  have h9 := MBox.set1 h8 13 (.int .i64 y.v3.a) ⟨⟨x.t.a, x.t.b, x.t.c, x.t.d⟩, ⟨y.v0.a, y.v0.b, y.v0.c⟩, ⟨y.v1.a, y.v1.b, y.v1.c⟩, ⟨y.v2.a, y.v2.b, y.v2.c⟩, ⟨y.v3.a, x.v3.b, x.v3.c⟩⟩ rfl
  have h10 := MBox.set1 h9 14 (.int .i64 y.v3.b) ⟨⟨x.t.a, x.t.b, x.t.c, x.t.d⟩, ⟨y.v0.a, y.v0.b, y.v0.c⟩, ⟨y.v1.a, y.v1.b, y.v1.c⟩, ⟨y.v2.a, y.v2.b, y.v2.c⟩, ⟨y.v3.a, y.v3.b, x.v3.c⟩⟩ rfl
  have h11 := MBox.set1 h10 15 (.int .i64 y.v3.c) ⟨⟨x.t.a, x.t.b, x.t.c, x.t.d⟩, ⟨y.v0.a, y.v0.b, y.v0.c⟩, ⟨y.v1.a, y.v1.b, y.v1.c⟩, ⟨y.v2.a, y.v2.b, y.v2.c⟩, ⟨y.v3.a, y.v3.b, y.v3.c⟩⟩ rfl
  exact h11
theorem MBox.setAll {w : World} {g : Nat} {T : TypeId} {x : Mp} (h : MBox w g ⟨T, x⟩) (y : Mp) : MBox ((((((((((((((((w.setCell ⟨g, 0, none⟩ (.int .i64 y.t.a)).setCell ⟨g, 1, none⟩ (.int .i64 y.t.b)).setCell ⟨g, 2, none⟩ (.int .i64 y.t.c)).setCell ⟨g, 3, none⟩ (.int .i64 y.t.d)).setCell ⟨g, 4, none⟩ (.int .i64 y.v0.a)).setCell ⟨g, 5, none⟩ (.int .i64 y.v0.b)).setCell ⟨g, 6, none⟩ (.int .i64 y.v0.c)).setCell ⟨g, 7, none⟩ (.int .i64 y.v1.a)).setCell ⟨g, 8, none⟩ (.int .i64 y.v1.b)).setCell ⟨g, 9, none⟩ (.int .i64 y.v1.c)).setCell ⟨g, 10, none⟩ (.int .i64 y.v2.a)).setCell ⟨g, 11, none⟩ (.int .i64 y.v2.b)).setCell ⟨g, 12, none⟩ (.int .i64 y.v2.c)).setCell ⟨g, 13, none⟩ (.int .i64 y.v3.a)).setCell ⟨g, 14, none⟩ (.int .i64 y.v3.b)).setCell ⟨g, 15, none⟩ (.int .i64 y.v3.c)) g ⟨T, y⟩ := by
  have h0 := MBox.set1 h 0 (.int .i64 y.t.a) ⟨⟨y.t.a, x.t.b, x.t.c, x.t.d⟩, ⟨x.v0.a, x.v0.b, x.v0.c⟩, ⟨x.v1.a, x.v1.b, x.v1.c⟩, ⟨x.v2.a, x.v2.b, x.v2.c⟩, ⟨x.v3.a, x.v3.b, x.v3.c⟩⟩ rfl
  have h1 := MBox.set1 h0 1 (.int .i64 y.t.b) ⟨⟨y.t.a, y.t.b, x.t.c, x.t.d⟩, ⟨x.v0.a, x.v0.b, x.v0.c⟩, ⟨x.v1.a, x.v1.b, x.v1.c⟩, ⟨x.v2.a, x.v2.b, x.v2.c⟩, ⟨x.v3.a, x.v3.b, x.v3.c⟩⟩ rfl
  have h2 := MBox.set1 h1 2 (.int .i64 y.t.c) ⟨⟨y.t.a, y.t.b, y.t.c, x.t.d⟩, ⟨x.v0.a, x.v0.b, x.v0.c⟩, ⟨x.v1.a, x.v1.b, x.v1.c⟩, ⟨x.v2.a, x.v2.b, x.v2.c⟩, ⟨x.v3.a, x.v3.b, x.v3.c⟩⟩ rfl
  have h3 := MBox.set1 h2 3 (.int .i64 y.t.d) ⟨⟨y.t.a, y.t.b, y.t.c, y.t.d⟩, ⟨x.v0.a, x.v0.b, x.v0.c⟩, ⟨x.v1.a, x.v1.b, x.v1.c⟩, ⟨x.v2.a, x.v2.b, x.v2.c⟩, ⟨x.v3.a, x.v3.b, x.v3.c⟩⟩ rfl
  have h4 := MBox.set1 h3 4 (.int .i64 y.v0.a) ⟨⟨y.t.a, y.t.b, y.t.c, y.t.d⟩, ⟨y.v0.a, x.v0.b, x.v0.c⟩, ⟨x.v1.a, x.v1.b, x.v1.c⟩, ⟨x.v2.a, x.v2.b, x.v2.c⟩, ⟨x.v3.a, x.v3.b, x.v3.c⟩⟩ rfl
  have h5 := MBox.set1 h4 5 (.int .i64 y.v0.b) ⟨⟨y.t.a, y.t.b, y.t.c, y.t.d⟩, ⟨y.v0.a, y.v0.b, x.v0.c⟩, ⟨x.v1.a, x.v1.b, x.v1.c⟩, ⟨x.v2.a, x.v2.b, x.v2.c⟩, ⟨x.v3.a, x.v3.b, x.v3.c⟩⟩ rfl
  have h6 := MBox.set1 h5 6 (.int .i64 y.v0.c) ⟨⟨y.t.a, y.t.b, y.t.c, y.t.d⟩, ⟨y.v0.a, y.v0.b, y.v0.c⟩, ⟨x.v1.a, x.v1.b, x.v1.c⟩, ⟨x.v2.a, x.v2.b, x.v2.c⟩, ⟨x.v3.a, x.v3.b, x.v3.c⟩⟩ rfl
  have h7 := MBox.set1 h6 7 (.int .i64 y.v1.a) ⟨⟨y.t.a, y.t.b, y.t.c, y.t.d⟩, ⟨y.v0.a, y.v0.b, y.v0.c⟩, ⟨y.v1.a, x.v1.b, x.v1.c⟩, ⟨x.v2.a, x.v2.b, x.v2.c⟩, ⟨x.v3.a, x.v3.b, x.v3.c⟩⟩ rfl
  have h8 := MBox.set1 h7 8 (.int .i64 y.v1.b) ⟨⟨y.t.a, y.t.b, y.t.c, y.t.d⟩, ⟨y.v0.a, y.v0.b, y.v0.c⟩, ⟨y.v1.a, y.v1.b, x.v1.c⟩, ⟨x.v2.a, x.v2.b, x.v2.c⟩, ⟨x.v3.a, x.v3.b, x.v3.c⟩⟩ rfl
  have h9 := MBox.set1 h8 9 (.int .i64 y.v1.c) ⟨⟨y.t.a, y.t.b, y.t.c, y.t.d⟩, ⟨y.v0.a, y.v0.b, y.v0.c⟩, ⟨y.v1.a, y.v1.b, y.v1.c⟩, ⟨x.v2.a, x.v2.b, x.v2.c⟩, ⟨x.v3.a, x.v3.b, x.v3.c⟩⟩ rfl
  have h10 := MBox.set1 h9 10 (.int .i64 y.v2.a) ⟨⟨y.t.a, y.t.b, y.t.c, y.t.d⟩, ⟨y.v0.a, y.v0.b, y.v0.c⟩, ⟨y.v1.a, y.v1.b, y.v1.c⟩, ⟨y.v2.a, x.v2.b, x.v2.c⟩, ⟨x.v3.a, x.v3.b, x.v3.c⟩⟩ rfl
  have h11 := MBox.set1 h10 11 (.int .i64 y.v2.b) ⟨⟨y.t.a, y.t.b, y.t.c, y.t.d⟩, ⟨y.v0.a, y.v0.b, y.v0.c⟩, ⟨y.v1.a, y.v1.b, y.v1.c⟩, ⟨y.v2.a, y.v2.b, x.v2.c⟩, ⟨x.v3.a, x.v3.b, x.v3.c⟩⟩ rfl
  have h12 := MBox.set1 h11 12 (.int .i64 y.v2.c) ⟨⟨y.t.a, y.t.b, y.t.c, y.t.d⟩, ⟨y.v0.a, y.v0.b, y.v0.c⟩, ⟨y.v1.a, y.v1.b, y.v1.c⟩, ⟨y.v2.a, y.v2.b, y.v2.c⟩, ⟨x.v3.a, x.v3.b, x.v3.c⟩⟩ rfl
  have h13 := MBox.set1 h12 13 (.int .i64 y.v3.a) ⟨⟨y.t.a, y.t.b, y.t.c, y.t.d⟩, ⟨y.v0.a, y.v0.b, y.v0.c⟩, ⟨y.v1.a, y.v1.b, y.v1.c⟩, ⟨y.v2.a, y.v2.b, y.v2.c⟩, ⟨y.v3.a, x.v3.b, x.v3.c⟩⟩ rfl
  have h14 := MBox.set1 h13 14 (.int .i64 y.v3.b) ⟨⟨y.t.a, y.t.b, y.t.c, y.t.d⟩, ⟨y.v0.a, y.v0.b, y.v0.c⟩, ⟨y.v1.a, y.v1.b, y.v1.c⟩, ⟨y.v2.a, y.v2.b, y.v2.c⟩, ⟨y.v3.a, y.v3.b, x.v3.c⟩⟩ rfl
  have h15 := MBox.set1 h14 15 (.int .i64 y.v3.c) ⟨⟨y.t.a, y.t.b, y.t.c, y.t.d⟩, ⟨y.v0.a, y.v0.b, y.v0.c⟩, ⟨y.v1.a, y.v1.b, y.v1.c⟩, ⟨y.v2.a, y.v2.b, y.v2.c⟩, ⟨y.v3.a, y.v3.b, y.v3.c⟩⟩ rfl
  exact h15
theorem load_map {w : World} {g : Nat} {T : TypeId} {m : Mp} (h : MBox w g ⟨T, m⟩) : (loadVar 28 ⟨g, 0, none⟩).run Try.prog w = .ok m.val w :=
  run_loadVar_row w g T 28 m.vals (0, 0) _ h Try.underlying28 rfl (by kernel_rfl)
theorem load_mapL {w : World} {g : Nat} {T : TypeId} {m : Mp} (h : MBox w g ⟨T, m⟩) : (loadVar 26 ⟨g, 0, none⟩).run Try.prog w = .ok m.val w :=
  run_loadVar_row w g T 26 m.vals (0, 0) _ h Try.underlying26 rfl (by kernel_rfl)
/-- A whole Map is read out of its block: the program's type, the law's type. -/
theorem take_map {ops : Array Oper} {rest : List Oper} {o : Oper} {a : Act} {w : World} {Q : Exit → Act → World → Prop} (hgd : o.guard = none) (x : Operand) (ho : o.op = .load 28 x) {g : Nat} {T : TypeId} {m : Mp} (h : MBox w g ⟨T, m⟩) (hx : a.eval x = .pointer (some ⟨g, 0, none⟩))
    (hk : wpList Try.prog ops Q rest (a.put o.dst m.val) w) : wpList Try.prog ops Q (o :: rest) a w :=
  wpList_load_row hgd 28 x ho g hx T m.vals (0, 0) _ h Try.underlying28 rfl (by kernel_rfl) hk
theorem take_mapL {ops : Array Oper} {rest : List Oper} {o : Oper} {a : Act} {w : World} {Q : Exit → Act → World → Prop} (hgd : o.guard = none) (x : Operand) (ho : o.op = .load 26 x) {g : Nat} {T : TypeId} {m : Mp} (h : MBox w g ⟨T, m⟩) (hx : a.eval x = .pointer (some ⟨g, 0, none⟩))
    (hk : wpList Try.prog ops Q rest (a.put o.dst m.val) w) : wpList Try.prog ops Q (o :: rest) a w :=
  wpList_load_row hgd 26 x ho g hx T m.vals (0, 0) _ h Try.underlying26 rfl (by kernel_rfl) hk
theorem grown_set (w : World) (g i : Nat) (v : Value) : w.grownBy (w.setCell ⟨g, i, none⟩ v) (some g) :=
  ⟨rfl, rfl, rfl, by simp [World.setCell], fun k hk hne => Below.heap_setCell _ _ _ _ (fun e => hne (by rw [e]))⟩
theorem grown_sets (g : Nat) : ∀ (vs : List Value) (o : Nat) (w : World), w.grownBy (w.setCells g o vs) (some g)
  | [], o, w => World.grownBy.refl w _
  | v :: r, o, w => World.grownBy.trans (grown_set w g o v) (grown_sets g r (o + 1) _)
theorem MBox.range {w : World} {g : Nat} {T : TypeId} {m : Mp} (h : MBox w g ⟨T, m⟩) : w.rangeAt g 0 m.vals.toList := fun j v hv => by
  rw [Nat.zero_add, h.cellI j]; simpa using hv
theorem MBox.there {w : World} {g : Nat} {T : TypeId} {m : Mp} (h : MBox w g ⟨T, m⟩) : w.there g 0 16 := fun j hj =>
  ⟨World.rangeAt.isSome h.range j hj, h.frozen _⟩
theorem MBox.stored {w : World} {g : Nat} {T : TypeId} {x : Mp} (h : MBox w g ⟨T, x⟩) (y : Mp) : MBox (w.setCells g 0 y.vals.toList) g ⟨T, y⟩ := MBox.setAll h y
/-- A whole Map is stored in a block. -/
theorem store_map {ops : Array Oper} {rest : List Oper} {o : Oper} {a : Act} {w : World} {Q : Exit → Act → World → Prop} (hgd : o.guard = none) (x y : Operand) (ho : o.op = .store 28 x y) {g : Nat} {T : TypeId} {z : Mp} (h : MBox w g ⟨T, z⟩) (hx : a.eval x = .pointer (some ⟨g, 0, none⟩))
    (m : Mp) (hy : a.eval y = m.val) (hk : ∀ w', MBox w' g ⟨T, m⟩ → w.grownBy w' (some g) → wpList Try.prog ops Q rest (a.put o.dst undef) w') : wpList Try.prog ops Q (o :: rest) a w :=
  wpList_store_mid hgd 28 x y ho g 0 m.vals hx hy h.there (by kernel_rfl) (by simp [Value.oneCell']) (hk _ (MBox.stored h m) (grown_sets g _ _ _))
theorem res_map {fn : Func} {i : Tmp} (hf : fn.results = #[.cell i 28]) {tmps : Array Value} {w : World} {g : Nat} {m : Mp} (ht : tmps.getD i undef = .pointer (some ⟨g, 0, none⟩)) (h : MBox w g ⟨28, m⟩) :
    (results fn tmps).run Try.prog w = .ok m.val w := by
  have hl := load_map h
  rw [Array.getD_eq_getD_getElem?] at ht
  simp only [results, hf]
  simp [Sem.run_bind, ht, asAddr, hl]
theorem res_map2 {fn : Func} {i u : Tmp} (hf : fn.results = #[.cell i 28, .tmp u]) {tmps : Array Value} {w : World} {g : Nat} {m : Mp} (ht : tmps.getD i undef = .pointer (some ⟨g, 0, none⟩)) (h : MBox w g ⟨28, m⟩) :
    (results fn tmps).run Try.prog w = .ok (.tuple #[m.val, tmps.getD u undef]) w := by
  have hl := load_map h
  rw [results_cell_tmp hf, ht]
  simp [asAddr, hl, Result.andThen]

set_option maxRecDepth 100000 in
set_option maxHeartbeats 4000000 in
theorem to_map (m : Mp) (w : World) :
    Calls Try.prog 17 #[m.val] w fun e w' => e = .returned m.val ∧ Below w.heap.size w w' := by
  go_enter Try.func17, Try.ntmps17
  go_wp2_with fail
  refine ((to_a4 m.t _)).mono ?_
  rintro e w2 ⟨rfl, b⟩
  have Sw2 := Lib.hid b.size
  have HB := Lib.hid (chain0 (w := w) (by repeat (first | with_reducible exact Below.refl _ _ | with_reducible exact HB.out | with_reducible apply Below.drew | with_reducible apply bdN | with_reducible refine Below.alloc ?_ (by first | exact Nat.le_refl _ | with_reducible exact HB.out.size | omega | (simp; done) | (simp; omega) | (have := HB.out.size; simp at *; omega)) _ | with_reducible refine Below.setCell ?_ (by first | exact Nat.le_refl _ | with_reducible exact HB.out.size | omega | (simp; done) | (simp; omega) | (have := HB.out.size; simp at *; omega)) _)) b)
  have K1 : Hid (MBox _ (w.heap.size) (⟨26, m⟩)) := Lib.hid (MBox.below (by repeat (first | with_reducible exact K1.out | with_reducible apply MBox.drewN | with_reducible apply MBox.drew | (with_reducible refine MBox.newAt ?_ ?_ <;> first | (simp; done) | rfl) | with_reducible apply MBox.alloc)) b)
  have K2 : Hid (MBox _ (w.heap.size + 1) (⟨28, zeroM⟩)) := Lib.hid (MBox.below (by repeat (first | with_reducible exact K2.out | with_reducible apply MBox.drewN | with_reducible apply MBox.drew | (with_reducible refine MBox.newAt ?_ ?_ <;> first | (simp; done) | rfl) | with_reducible apply MBox.alloc)) b)
  have K3 : Hid (MBox _ (w.heap.size + 1 + 1) (⟨28, zeroM⟩)) := Lib.hid (MBox.below (by repeat (first | with_reducible exact K3.out | with_reducible apply MBox.drewN | with_reducible apply MBox.drew | (with_reducible refine MBox.newAt ?_ ?_ <;> first | (simp; done) | rfl) | with_reducible apply MBox.alloc)) b)
  try clear k1a k1b k1c k1d k1e k1g k1h k1i k1j k1k k1l k1m k1n k1o k1p k1q k1z
  have k1z := K1.out.lt
  obtain ⟨k1a, k1b, k1c, k1d, k1e, k1g, k1h, k1i, k1j, k1k, k1l, k1m, k1n, k1o, k1p, k1q⟩ := K1.out.cell
  try clear k2a k2b k2c k2d k2e k2g k2h k2i k2j k2k k2l k2m k2n k2o k2p k2q k2z
  have k2z := K2.out.lt
  obtain ⟨k2a, k2b, k2c, k2d, k2e, k2g, k2h, k2i, k2j, k2k, k2l, k2m, k2n, k2o, k2p, k2q⟩ := K2.out.cell
  try clear k2f
  have k2f := K2.out.frozen
  try clear k3a k3b k3c k3d k3e k3g k3h k3i k3j k3k k3l k3m k3n k3o k3p k3q k3z
  have k3z := K3.out.lt
  obtain ⟨k3a, k3b, k3c, k3d, k3e, k3g, k3h, k3i, k3j, k3k, k3l, k3m, k3n, k3o, k3p, k3q⟩ := K3.out.cell
  try clear k3f
  have k3f := K3.out.frozen
  clear b
  clear k1e k1g k1h k1i k1j k1k k1l k1m k1n k1o k1p k1q k2a k2b k2c k2d k2e k2g k2h k2i k2j k2k k2l k2m k2n k2o k2p k2q k3e k3g k3h k3i k3j k3k k3l k3m k3n k3o k3p k3q
  go_upto_region 3 with fail
  have K1 := Lib.hid ((((K1.out.far (p := ⟨w.heap.size + 1 + 1, 0, none⟩) (by simp only; omega) (.int .i64 m.t.a)).far (p := ⟨w.heap.size + 1 + 1, 1, none⟩) (by simp only; omega) (.int .i64 m.t.b)).far (p := ⟨w.heap.size + 1 + 1, 2, none⟩) (by simp only; omega) (.int .i64 m.t.c)).far (p := ⟨w.heap.size + 1 + 1, 3, none⟩) (by simp only; omega) (.int .i64 m.t.d))
  have K2 := Lib.hid ((((K2.out.far (p := ⟨w.heap.size + 1 + 1, 0, none⟩) (by simp only; omega) (.int .i64 m.t.a)).far (p := ⟨w.heap.size + 1 + 1, 1, none⟩) (by simp only; omega) (.int .i64 m.t.b)).far (p := ⟨w.heap.size + 1 + 1, 2, none⟩) (by simp only; omega) (.int .i64 m.t.c)).far (p := ⟨w.heap.size + 1 + 1, 3, none⟩) (by simp only; omega) (.int .i64 m.t.d))
  have K3 := Lib.hid (MBox.setT K3.out m)
  have HB : Hid (Below w.heap.size w ((((w2.setCell ⟨w.heap.size + 1 + 1, 0, none⟩ (.int .i64 m.t.a)).setCell ⟨w.heap.size + 1 + 1, 1, none⟩ (.int .i64 m.t.b)).setCell ⟨w.heap.size + 1 + 1, 2, none⟩ (.int .i64 m.t.c)).setCell ⟨w.heap.size + 1 + 1, 3, none⟩ (.int .i64 m.t.d))) := Lib.hid (by repeat (first | with_reducible exact Below.refl _ _ | with_reducible exact HB.out | with_reducible apply Below.drew | with_reducible apply bdN | with_reducible refine Below.alloc ?_ (by first | exact Nat.le_refl _ | with_reducible exact HB.out.size | omega | (simp; done) | (simp; omega) | (have := HB.out.size; simp at *; omega)) _ | with_reducible refine Below.setCell ?_ (by first | exact Nat.le_refl _ | with_reducible exact HB.out.size | omega | (simp; done) | (simp; omega) | (have := HB.out.size; simp at *; omega)) _))
  generalize ((((w2.setCell ⟨w.heap.size + 1 + 1, 0, none⟩ (.int .i64 m.t.a)).setCell ⟨w.heap.size + 1 + 1, 1, none⟩ (.int .i64 m.t.b)).setCell ⟨w.heap.size + 1 + 1, 2, none⟩ (.int .i64 m.t.c)).setCell ⟨w.heap.size + 1 + 1, 3, none⟩ (.int .i64 m.t.d)) = w3 at *
  clear k1a k1b k1c k1d k1z k2z k3a k3b k3c k3d k3z k2f k3f Sw2
  obtain ⟨k1a, k1b, k1c, k1d, k1e, k1g, k1h, k1i, k1j, k1k, k1l, k1m, k1n, k1o, k1p, k1q⟩ := K1.out.cell
  have k1z := K1.out.lt
  have k3z := K3.out.lt
  clear k1a k1b k1c k1d
  go_wp2_with fail
  refine ((to_rows m _)).mono ?_
  rintro e w4 ⟨rfl, b⟩
  have Sw4 := Lib.hid b.size
  have HB := Lib.hid (chain0 (w := w) (by repeat (first | with_reducible exact Below.refl _ _ | with_reducible exact HB.out | with_reducible apply Below.drew | with_reducible apply bdN | with_reducible refine Below.alloc ?_ (by first | exact Nat.le_refl _ | with_reducible exact HB.out.size | omega | (simp; done) | (simp; omega) | (have := HB.out.size; simp at *; omega)) _ | with_reducible refine Below.setCell ?_ (by first | exact Nat.le_refl _ | with_reducible exact HB.out.size | omega | (simp; done) | (simp; omega) | (have := HB.out.size; simp at *; omega)) _)) b)
  have K1 : Hid (MBox _ (w.heap.size) (⟨26, m⟩)) := Lib.hid (MBox.below (by repeat (first | with_reducible exact K1.out | with_reducible apply MBox.drewN | with_reducible apply MBox.drew | (with_reducible refine MBox.newAt ?_ ?_ <;> first | (simp; done) | rfl) | with_reducible apply MBox.alloc)) b)
  have K2 : Hid (MBox _ (w.heap.size + 1) (⟨28, zeroM⟩)) := Lib.hid (MBox.below (by repeat (first | with_reducible exact K2.out | with_reducible apply MBox.drewN | with_reducible apply MBox.drew | (with_reducible refine MBox.newAt ?_ ?_ <;> first | (simp; done) | rfl) | with_reducible apply MBox.alloc)) b)
  have K3 : Hid (MBox _ (w.heap.size + 1 + 1) (⟨28, ⟨m.t, zero3, zero3, zero3, zero3⟩⟩)) := Lib.hid (MBox.below (by repeat (first | with_reducible exact K3.out | with_reducible apply MBox.drewN | with_reducible apply MBox.drew | (with_reducible refine MBox.newAt ?_ ?_ <;> first | (simp; done) | rfl) | with_reducible apply MBox.alloc)) b)
  try clear k1a k1b k1c k1d k1e k1g k1h k1i k1j k1k k1l k1m k1n k1o k1p k1q k1z
  have k1z := K1.out.lt
  obtain ⟨k1a, k1b, k1c, k1d, k1e, k1g, k1h, k1i, k1j, k1k, k1l, k1m, k1n, k1o, k1p, k1q⟩ := K1.out.cell
  try clear k2a k2b k2c k2d k2e k2g k2h k2i k2j k2k k2l k2m k2n k2o k2p k2q k2z
  have k2z := K2.out.lt
  obtain ⟨k2a, k2b, k2c, k2d, k2e, k2g, k2h, k2i, k2j, k2k, k2l, k2m, k2n, k2o, k2p, k2q⟩ := K2.out.cell
  try clear k2f
  have k2f := K2.out.frozen
  try clear k3a k3b k3c k3d k3e k3g k3h k3i k3j k3k k3l k3m k3n k3o k3p k3q k3z
  have k3z := K3.out.lt
  obtain ⟨k3a, k3b, k3c, k3d, k3e, k3g, k3h, k3i, k3j, k3k, k3l, k3m, k3n, k3o, k3p, k3q⟩ := K3.out.cell
  try clear k3f
  have k3f := K3.out.frozen
  clear b
  clear k1a k1b k1c k1d k1e k1g k1h k1i k1j k1k k1l k1m k1n k1o k1p k1q k2a k2b k2c k2d k2e k2g k2h k2i k2j k2k k2l k2m k2n k2o k2p k2q k3a k3b k3c k3d
  go_upto_region 4 with fail
  have K2 := Lib.hid (((((((((((((K2.out.far (p := ⟨w.heap.size + 1 + 1, 4, none⟩) (by simp only; omega) (.int .i64 m.v0.a)).far (p := ⟨w.heap.size + 1 + 1, 5, none⟩) (by simp only; omega) (.int .i64 m.v0.b)).far (p := ⟨w.heap.size + 1 + 1, 6, none⟩) (by simp only; omega) (.int .i64 m.v0.c)).far (p := ⟨w.heap.size + 1 + 1, 7, none⟩) (by simp only; omega) (.int .i64 m.v1.a)).far (p := ⟨w.heap.size + 1 + 1, 8, none⟩) (by simp only; omega) (.int .i64 m.v1.b)).far (p := ⟨w.heap.size + 1 + 1, 9, none⟩) (by simp only; omega) (.int .i64 m.v1.c)).far (p := ⟨w.heap.size + 1 + 1, 10, none⟩) (by simp only; omega) (.int .i64 m.v2.a)).far (p := ⟨w.heap.size + 1 + 1, 11, none⟩) (by simp only; omega) (.int .i64 m.v2.b)).far (p := ⟨w.heap.size + 1 + 1, 12, none⟩) (by simp only; omega) (.int .i64 m.v2.c)).far (p := ⟨w.heap.size + 1 + 1, 13, none⟩) (by simp only; omega) (.int .i64 m.v3.a)).far (p := ⟨w.heap.size + 1 + 1, 14, none⟩) (by simp only; omega) (.int .i64 m.v3.b)).far (p := ⟨w.heap.size + 1 + 1, 15, none⟩) (by simp only; omega) (.int .i64 m.v3.c)))
  have K3 := Lib.hid (MBox.setRows K3.out m)
  have HB : Hid (Below w.heap.size w ((((((((((((w4.setCell ⟨w.heap.size + 1 + 1, 4, none⟩ (.int .i64 m.v0.a)).setCell ⟨w.heap.size + 1 + 1, 5, none⟩ (.int .i64 m.v0.b)).setCell ⟨w.heap.size + 1 + 1, 6, none⟩ (.int .i64 m.v0.c)).setCell ⟨w.heap.size + 1 + 1, 7, none⟩ (.int .i64 m.v1.a)).setCell ⟨w.heap.size + 1 + 1, 8, none⟩ (.int .i64 m.v1.b)).setCell ⟨w.heap.size + 1 + 1, 9, none⟩ (.int .i64 m.v1.c)).setCell ⟨w.heap.size + 1 + 1, 10, none⟩ (.int .i64 m.v2.a)).setCell ⟨w.heap.size + 1 + 1, 11, none⟩ (.int .i64 m.v2.b)).setCell ⟨w.heap.size + 1 + 1, 12, none⟩ (.int .i64 m.v2.c)).setCell ⟨w.heap.size + 1 + 1, 13, none⟩ (.int .i64 m.v3.a)).setCell ⟨w.heap.size + 1 + 1, 14, none⟩ (.int .i64 m.v3.b)).setCell ⟨w.heap.size + 1 + 1, 15, none⟩ (.int .i64 m.v3.c))) := Lib.hid (by repeat (first | with_reducible exact Below.refl _ _ | with_reducible exact HB.out | with_reducible apply Below.drew | with_reducible apply bdN | with_reducible refine Below.alloc ?_ (by first | exact Nat.le_refl _ | with_reducible exact HB.out.size | omega | (simp; done) | (simp; omega) | (have := HB.out.size; simp at *; omega)) _ | with_reducible refine Below.setCell ?_ (by first | exact Nat.le_refl _ | with_reducible exact HB.out.size | omega | (simp; done) | (simp; omega) | (have := HB.out.size; simp at *; omega)) _))
  generalize ((((((((((((w4.setCell ⟨w.heap.size + 1 + 1, 4, none⟩ (.int .i64 m.v0.a)).setCell ⟨w.heap.size + 1 + 1, 5, none⟩ (.int .i64 m.v0.b)).setCell ⟨w.heap.size + 1 + 1, 6, none⟩ (.int .i64 m.v0.c)).setCell ⟨w.heap.size + 1 + 1, 7, none⟩ (.int .i64 m.v1.a)).setCell ⟨w.heap.size + 1 + 1, 8, none⟩ (.int .i64 m.v1.b)).setCell ⟨w.heap.size + 1 + 1, 9, none⟩ (.int .i64 m.v1.c)).setCell ⟨w.heap.size + 1 + 1, 10, none⟩ (.int .i64 m.v2.a)).setCell ⟨w.heap.size + 1 + 1, 11, none⟩ (.int .i64 m.v2.b)).setCell ⟨w.heap.size + 1 + 1, 12, none⟩ (.int .i64 m.v2.c)).setCell ⟨w.heap.size + 1 + 1, 13, none⟩ (.int .i64 m.v3.a)).setCell ⟨w.heap.size + 1 + 1, 14, none⟩ (.int .i64 m.v3.b)).setCell ⟨w.heap.size + 1 + 1, 15, none⟩ (.int .i64 m.v3.c)) = w5 at *
  clear k1z k2z k3e k3g k3h k3i k3j k3k k3l k3m k3n k3o k3p k3q k3z k2f k3f Sw4
  have K3 : Hid (MBox w5 (w.heap.size + 1 + 1) ⟨28, m⟩) := K3
  go_wp2_with (first
    | ((with_reducible refine take_map rfl _ rfl K3.out ?_ ?_); rfl)
    | ((with_reducible refine store_map rfl _ _ rfl K2.out ?_ m ?_ ?_); rfl; rfl; intro w6 hM hG))
  try simp only [Exit.inBlock, Exit.then]
  refine bodyPost_ret (res_map Try.results17 rfl hM) rfl ?_
  exact ⟨rfl, HB.out.grown hG HB.out.size (fun k hk => by injection hk with hk; omega)⟩

set_option maxRecDepth 100000 in
set_option maxHeartbeats 4000000 in
theorem eq_map (m : Mp) (w : World) :
    Calls Try.prog 32 #[m.val, m.val] w fun e w' => e = .returned (.bool true) ∧ Below w.heap.size w w' := by
  have hs : same m.t m.t = true := same_iff.2 rfl
  go_enter Try.func32, Try.ntmps32
  go_wp2_with fail
  refine ((eq_a4 m.t m.t _)).mono ?_
  rintro e w2 ⟨rfl, b⟩
  have Sw2 := Lib.hid b.size
  have HB := Lib.hid (chain0 (w := w) (by repeat (first | with_reducible exact Below.refl _ _ | with_reducible exact HB.out | with_reducible apply Below.drew | with_reducible apply bdN | with_reducible refine Below.alloc ?_ (by first | exact Nat.le_refl _ | with_reducible exact HB.out.size | omega | (simp; done) | (simp; omega) | (have := HB.out.size; simp at *; omega)) _ | with_reducible refine Below.setCell ?_ (by first | exact Nat.le_refl _ | with_reducible exact HB.out.size | omega | (simp; done) | (simp; omega) | (have := HB.out.size; simp at *; omega)) _)) b)
  have K1 : Hid (MBox _ (w.heap.size) (⟨28, m⟩)) := Lib.hid (MBox.below (by repeat (first | with_reducible exact K1.out | with_reducible apply MBox.drewN | with_reducible apply MBox.drew | (with_reducible refine MBox.newAt ?_ ?_ <;> first | (simp; done) | rfl) | with_reducible apply MBox.alloc)) b)
  have K2 : Hid (MBox _ (w.heap.size + 1) (⟨28, m⟩)) := Lib.hid (MBox.below (by repeat (first | with_reducible exact K2.out | with_reducible apply MBox.drewN | with_reducible apply MBox.drew | (with_reducible refine MBox.newAt ?_ ?_ <;> first | (simp; done) | rfl) | with_reducible apply MBox.alloc)) b)
  try clear k1a k1b k1c k1d k1e k1g k1h k1i k1j k1k k1l k1m k1n k1o k1p k1q k1z
  have k1z := K1.out.lt
  obtain ⟨k1a, k1b, k1c, k1d, k1e, k1g, k1h, k1i, k1j, k1k, k1l, k1m, k1n, k1o, k1p, k1q⟩ := K1.out.cell
  try clear k2a k2b k2c k2d k2e k2g k2h k2i k2j k2k k2l k2m k2n k2o k2p k2q k2z
  have k2z := K2.out.lt
  obtain ⟨k2a, k2b, k2c, k2d, k2e, k2g, k2h, k2i, k2j, k2k, k2l, k2m, k2n, k2o, k2p, k2q⟩ := K2.out.cell
  clear b
  go_wp2_with fail
  refine ((eq_rows m _)).mono ?_
  rintro e w4 ⟨rfl, b⟩
  have Sw4 := Lib.hid b.size
  have HB := Lib.hid (chain0 (w := w) (by repeat (first | with_reducible exact Below.refl _ _ | with_reducible exact HB.out | with_reducible apply Below.drew | with_reducible apply bdN | with_reducible refine Below.alloc ?_ (by first | exact Nat.le_refl _ | with_reducible exact HB.out.size | omega | (simp; done) | (simp; omega) | (have := HB.out.size; simp at *; omega)) _ | with_reducible refine Below.setCell ?_ (by first | exact Nat.le_refl _ | with_reducible exact HB.out.size | omega | (simp; done) | (simp; omega) | (have := HB.out.size; simp at *; omega)) _)) b)
  have K1 : Hid (MBox _ (w.heap.size) (⟨28, m⟩)) := Lib.hid (MBox.below (by repeat (first | with_reducible exact K1.out | with_reducible apply MBox.drewN | with_reducible apply MBox.drew | (with_reducible refine MBox.newAt ?_ ?_ <;> first | (simp; done) | rfl) | with_reducible apply MBox.alloc)) b)
  have K2 : Hid (MBox _ (w.heap.size + 1) (⟨28, m⟩)) := Lib.hid (MBox.below (by repeat (first | with_reducible exact K2.out | with_reducible apply MBox.drewN | with_reducible apply MBox.drew | (with_reducible refine MBox.newAt ?_ ?_ <;> first | (simp; done) | rfl) | with_reducible apply MBox.alloc)) b)
  try clear k1a k1b k1c k1d k1e k1g k1h k1i k1j k1k k1l k1m k1n k1o k1p k1q k1z
  have k1z := K1.out.lt
  obtain ⟨k1a, k1b, k1c, k1d, k1e, k1g, k1h, k1i, k1j, k1k, k1l, k1m, k1n, k1o, k1p, k1q⟩ := K1.out.cell
  try clear k2a k2b k2c k2d k2e k2g k2h k2i k2j k2k k2l k2m k2n k2o k2p k2q k2z
  have k2z := K2.out.lt
  obtain ⟨k2a, k2b, k2c, k2d, k2e, k2g, k2h, k2i, k2j, k2k, k2l, k2m, k2n, k2o, k2p, k2q⟩ := K2.out.cell
  clear b
  go_wp2_with fail
  go_ret
  exact ⟨rfl, by repeat (first | with_reducible exact Below.refl _ _ | with_reducible exact HB.out | with_reducible apply Below.drew | with_reducible apply bdN | with_reducible refine Below.alloc ?_ (by first | exact Nat.le_refl _ | with_reducible exact HB.out.size | omega | (simp; done) | (simp; omega) | (have := HB.out.size; simp at *; omega)) _ | with_reducible refine Below.setCell ?_ (by first | exact Nat.le_refl _ | with_reducible exact HB.out.size | omega | (simp; done) | (simp; omega) | (have := HB.out.size; simp at *; omega)) _)⟩
end Go.Proofs.Ytngfdfgeoieebaa.maps
