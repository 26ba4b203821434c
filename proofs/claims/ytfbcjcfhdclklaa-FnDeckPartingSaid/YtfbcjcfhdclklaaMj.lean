/- Maps: one Map behind another one, the program's and the model's. -/
import Derived.Test.YtfbcjcfhdclklaaMf
namespace Go.Proofs.Ytfbcjcfhdclklaa.maps
open Go.RowKit
open cards
set_option linter.unusedVariables false

def set4 (x : Cd) (i : Nat) (v : Int) : Cd := match i with
  | 0 => ⟨v, x.b, x.c, x.d⟩
  | 1 => ⟨x.a, v, x.c, x.d⟩
  | 2 => ⟨x.a, x.b, v, x.d⟩
  | _ => ⟨x.a, x.b, x.c, v⟩
def set3 (x : A3) (i : Nat) (v : Int) : A3 := match i with
  | 0 => ⟨v, x.b, x.c⟩
  | 1 => ⟨x.a, v, x.c⟩
  | _ => ⟨x.a, x.b, v⟩
def pT (m : Mp) (i : Nat) (v : Int) : Mp := ⟨set4 m.t i v, m.v0, m.v1, m.v2, m.v3⟩
def pV (m : Mp) (i j : Nat) (v : Int) : Mp := match i with
  | 0 => ⟨m.t, set3 m.v0 j v, m.v1, m.v2, m.v3⟩
  | 1 => ⟨m.t, m.v0, set3 m.v1 j v, m.v2, m.v3⟩
  | 2 => ⟨m.t, m.v0, m.v1, set3 m.v2 j v, m.v3⟩
  | _ => ⟨m.t, m.v0, m.v1, m.v2, set3 m.v3 j v⟩
theorem MBox.putT {w : World} {g : Nat} {T : TypeId} {x : Mp} (h : MBox w g ⟨T, x⟩) {i : Nat} (hi : i < 4) (v : Int) : MBox (w.setCell ⟨g, i, none⟩ (.int .i64 v)) g ⟨T, pT x i v⟩ := by
  refine MBox.set1 h i _ _ ?_
  rcases (show i = 0 ∨ i = 1 ∨ i = 2 ∨ i = 3 by omega) with rfl | rfl | rfl | rfl <;> rfl
theorem MBox.putV {w : World} {g : Nat} {T : TypeId} {x : Mp} (h : MBox w g ⟨T, x⟩) {i j : Nat} (hi : i < 4) (hj : j < 3) (v : Int) : MBox (w.setCell ⟨g, 4 + i * 3 + j, none⟩ (.int .i64 v)) g ⟨T, pV x i j v⟩ := by
  refine MBox.set1 h _ _ _ ?_
  rcases (show i = 0 ∨ i = 1 ∨ i = 2 ∨ i = 3 by omega) with rfl | rfl | rfl | rfl <;> rcases (show j = 0 ∨ j = 1 ∨ j = 2 by omega) with rfl | rfl | rfl <;> rfl
theorem MBox.atT' {w : World} {g : Nat} {x : Mv} (h : MBox w g x) {i : Nat} (hi : i < 4) : w.cell? ⟨g, i, none⟩ = some (.int .i64 (get4 x.m.t i)) := by
  have := MBox.atT h (i := i) (by omega); simpa using this
theorem MBox.atV' {w : World} {g : Nat} {x : Mv} (h : MBox w g x) {i v : Nat} (hi : i < 4) (hv : v < 3) : w.cell? ⟨g, 4 + i * 3 + v, none⟩ = some (.int .i64 (get3 (getV x.m i) v)) := by
  have := MBox.atV h (i := i) (v := v) (by omega) (by omega); simpa using this
theorem Box.atI' {w : World} {g : Nat} {x : Cd} (h : Box w g x) {i : Nat} (hi : i < 4) : w.cell? ⟨g, i, none⟩ = some (.int .i64 (get4 x i)) := by
  have := Box.atI h (i := i) (by omega); simpa using this
theorem card_at (x : Cd) {k : Nat} (hk : k < 4) (w : World) : (Instr.index 48 x.val (.int .i64 k)).run Try.prog w = .ok (.int .i64 (get4 x k)) w := by
  rcases (show k = 0 ∨ k = 1 ∨ k = 2 ∨ k = 3 by omega) with rfl | rfl | rfl | rfl
  · exact card_0 x w
  · exact card_1 x w
  · exact card_2 x w
  · exact card_3 x w
theorem row_a (x : A3) (w : World) : (Instr.index 55 x.val (.int .i64 0)).run Try.prog w = .ok (.int .i64 x.a) w := by kernel_rfl
theorem row_b (x : A3) (w : World) : (Instr.index 55 x.val (.int .i64 1)).run Try.prog w = .ok (.int .i64 x.b) w := by kernel_rfl
theorem row_c (x : A3) (w : World) : (Instr.index 55 x.val (.int .i64 2)).run Try.prog w = .ok (.int .i64 x.c) w := by kernel_rfl
theorem row_at (x : A3) {k : Nat} (hk : k < 3) (w : World) : (Instr.index 55 x.val (.int .i64 k)).run Try.prog w = .ok (.int .i64 (get3 x k)) w := by
  rcases (show k = 0 ∨ k = 1 ∨ k = 2 by omega) with rfl | rfl | rfl
  · exact row_a x w
  · exact row_b x w
  · exact row_c x w
/-- A row of values is read out of a Map's block. -/
theorem MBox.rangeV {w : World} {g : Nat} {x : Mv} (h : MBox w g x) {i : Nat} (hi : i < 4) : w.rangeAt g (4 + i * 3) [.int .i64 (getV x.m i).a, .int .i64 (getV x.m i).b, .int .i64 (getV x.m i).c] := fun j v hv => by
  have hj : j < 3 := by have := (List.getElem?_eq_some_iff.1 hv).1; simpa using this
  have := h.atV' hi hj
  rw [this]
  rcases (show j = 0 ∨ j = 1 ∨ j = 2 by omega) with rfl | rfl | rfl <;> exact hv
theorem take_row {ops : Array Oper} {rest : List Oper} {o : Oper} {a : Act} {w : World} {Q : Exit → Act → World → Prop} (hgd : o.guard = none) (x : Operand) (ho : o.op = .load 55 x) {g i : Nat} {m : Mv} (h : MBox w g m) (hi : i < 4) (hx : a.eval x = .pointer (some ⟨g, 4 + i * 3, none⟩))
    (hk : wpList Try.prog ops Q rest (a.put o.dst (getV m.m i).val) w) : wpList Try.prog ops Q (o :: rest) a w :=
  wpList_load_mid hgd 55 x ho g (4 + i * 3) hx [.int .i64 (getV m.m i).a, .int .i64 (getV m.m i).b, .int .i64 (getV m.m i).c] _ (h.rangeV hi) Try.underlying55 rfl (by kernel_rfl) hk

theorem take_T {ops : Array Oper} {rest : List Oper} {o : Oper} {a : Act} {w : World} {Q : Exit → Act → World → Prop} (hgd : o.guard = none) (x : Operand) (ho : o.op = .load 48 x) {g : Nat} {m : Mv} (h : MBox w g m) (hx : a.eval x = .pointer (some ⟨g, 0, none⟩))
    (hk : wpList Try.prog ops Q rest (a.put o.dst m.m.t.val) w) : wpList Try.prog ops Q (o :: rest) a w :=
  wpList_load_mid hgd 48 x ho g 0 hx [.int .i64 m.m.t.a, .int .i64 m.m.t.b, .int .i64 m.m.t.c, .int .i64 m.m.t.d] _ (fun j v hv => by
    have hj : j < 4 := by have := (List.getElem?_eq_some_iff.1 hv).1; simpa using this
    have := h.atT' hj
    rw [Nat.zero_add, this]
    rcases (show j = 0 ∨ j = 1 ∨ j = 2 ∨ j = 3 by omega) with rfl | rfl | rfl | rfl <;> exact hv) Try.underlying48 rfl (by kernel_rfl) hk

def bhRow (a b : Mp) (k f : Nat) (M : Mp) : Nat → Mp
  | 0 => M
  | v + 1 => pV (bhRow a b k f M v) k v (get3 (getV b k) (get3 (getV a f) v))
def bhTo (a b : Mp) : Nat → Mp
  | 0 => zeroM
  | k + 1 => bhRow a b k (get4 b.t k).toNat (pT (bhTo a b k) k (get4 a.t (get4 b.t k).toNat)) 3
theorem bhTo_all {a b : Mp} (hb : b.t.pm = true) : bhTo a b 4 = bh a b := by
  have h := Cd.pm_iff.1 hb
  have e : ∀ x : Int, 0 ≤ x → ((x.toNat : Nat) : Int) = x := fun x h => Int.toNat_of_nonneg h
  show Mp.mk ⟨get4 a.t ((b.t.a.toNat : Nat) : Int), get4 a.t ((b.t.b.toNat : Nat) : Int), get4 a.t ((b.t.c.toNat : Nat) : Int), get4 a.t ((b.t.d.toNat : Nat) : Int)⟩
    ⟨get3 b.v0 (getV a ((b.t.a.toNat : Nat) : Int)).a, get3 b.v0 (getV a ((b.t.a.toNat : Nat) : Int)).b, get3 b.v0 (getV a ((b.t.a.toNat : Nat) : Int)).c⟩
    ⟨get3 b.v1 (getV a ((b.t.b.toNat : Nat) : Int)).a, get3 b.v1 (getV a ((b.t.b.toNat : Nat) : Int)).b, get3 b.v1 (getV a ((b.t.b.toNat : Nat) : Int)).c⟩
    ⟨get3 b.v2 (getV a ((b.t.c.toNat : Nat) : Int)).a, get3 b.v2 (getV a ((b.t.c.toNat : Nat) : Int)).b, get3 b.v2 (getV a ((b.t.c.toNat : Nat) : Int)).c⟩
    ⟨get3 b.v3 (getV a ((b.t.d.toNat : Nat) : Int)).a, get3 b.v3 (getV a ((b.t.d.toNat : Nat) : Int)).b, get3 b.v3 (getV a ((b.t.d.toNat : Nat) : Int)).c⟩ = _
  rw [e _ h.1.1, e _ h.2.1.1, e _ h.2.2.1.1, e _ h.2.2.2.1.1]
  rfl
theorem get4_nat {x : Cd} (h : x.pm = true) (k : Nat) : ∃ f : Nat, f < 4 ∧ get4 x k = (f : Int) ∧ (get4 x k).toNat = f := by
  have := get4_pm h (i := k)
  exact ⟨(get4 x k).toNat, by omega, (Int.toNat_of_nonneg this.1).symm, rfl⟩
theorem get3_nat {x : A3} (h : x.pm = true) (k : Nat) : ∃ f : Nat, f < 3 ∧ get3 x k = (f : Int) ∧ (get3 x k).toNat = f := by
  have := get3_pm h (i := k)
  exact ⟨(get3 x k).toNat, by omega, (Int.toNat_of_nonneg this.1).symm, rfl⟩

end Go.Proofs.Ytfbcjcfhdclklaa.maps
