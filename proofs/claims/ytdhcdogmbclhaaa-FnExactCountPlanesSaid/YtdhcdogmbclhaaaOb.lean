/- Weights: IsWeight, and the value of a card by a weight, the program's and the model's. -/
import Derived.Test.YtdhcdogmbclhaaaNm
namespace Go.Proofs.Ytdhcdogmbclhaaa.planes
open Go.RowKit
open cards
set_option linter.unusedVariables false

/-- Is the first number other than 0 a 1? -/
def lead (w : Cd) : Bool := decide (w.a = 1 ∨ (w.a = 0 ∧ (w.b = 1 ∨ (w.b = 0 ∧ (w.c = 1 ∨ (w.c = 0 ∧ w.d = 1))))))
def wtB (w : Cd) : Bool := lead w && w.ok
theorem wtB_ok {w : Cd} (h : wtB w = true) : w.ok = true := by unfold wtB at h; simp at h; exact h.2

set_option maxRecDepth 100000 in
set_option maxHeartbeats 2000000 in
theorem is_weight_0 (x : Cd) (w : World) (g : x.a = 1) :
    Calls Try.prog 37 #[x.val] w fun e w' => e = .returned (.bool x.ok) ∧ Below w.heap.size w w' := by
  have f0 : (x.a != 0) = true := by simp [g]
  have f9 : (x.a == 1) = true := by simp [g]
  clear g
  have i0 : ∀ w : World, (Instr.index 33 x.val (.int .i64 0)).run Try.prog w = .ok (.int .i64 x.a) w := fun _ => by kernel_rfl
  have i1 : ∀ w : World, (Instr.index 33 x.val (.int .i64 1)).run Try.prog w = .ok (.int .i64 x.b) w := fun _ => by kernel_rfl
  have i2 : ∀ w : World, (Instr.index 33 x.val (.int .i64 2)).run Try.prog w = .ok (.int .i64 x.c) w := fun _ => by kernel_rfl
  have i3 : ∀ w : World, (Instr.index 33 x.val (.int .i64 3)).run Try.prog w = .ok (.int .i64 x.d) w := fun _ => by kernel_rfl
  have K0 : Hid (Box (w.alloc x.obj) w.heap.size x) := Lib.hid (Box.newAt rfl rfl)
  have HB : Hid (Below w.heap.size w (w.alloc x.obj)) := Lib.hid ((Below.refl _ _).alloc (Nat.le_refl _) _)
  go_enter Try.func37, Try.ntmps37
  go_wp2_with fail
  refine wp_loop_rounds 5 ?_
  iterate 1 (rw [rounds_succ]; go_wp2_with fail)
  refine (is_card x _).mono ?_
  rintro e w1 ⟨rfl, b⟩
  have HB2 := Lib.hid (chain0 HB.out b)
  clear b
  go_wp2_with fail
  go_ret
  exact ⟨rfl, HB2.out⟩

set_option maxRecDepth 100000 in
set_option maxHeartbeats 2000000 in
theorem is_weight_1 (x : Cd) (w : World) (g0 : x.a ≠ 0) (g : x.a ≠ 1) :
    Calls Try.prog 37 #[x.val] w fun e w' => e = .returned (.bool false) ∧ Below w.heap.size w w' := by
  have f0 : (x.a != 0) = true := by simp [g0]
  have f9 : (x.a == 1) = false := by simp [g]
  clear g0 g
  have i0 : ∀ w : World, (Instr.index 33 x.val (.int .i64 0)).run Try.prog w = .ok (.int .i64 x.a) w := fun _ => by kernel_rfl
  have i1 : ∀ w : World, (Instr.index 33 x.val (.int .i64 1)).run Try.prog w = .ok (.int .i64 x.b) w := fun _ => by kernel_rfl
  have i2 : ∀ w : World, (Instr.index 33 x.val (.int .i64 2)).run Try.prog w = .ok (.int .i64 x.c) w := fun _ => by kernel_rfl
  have i3 : ∀ w : World, (Instr.index 33 x.val (.int .i64 3)).run Try.prog w = .ok (.int .i64 x.d) w := fun _ => by kernel_rfl
  have K0 : Hid (Box (w.alloc x.obj) w.heap.size x) := Lib.hid (Box.newAt rfl rfl)
  have HB : Hid (Below w.heap.size w (w.alloc x.obj)) := Lib.hid ((Below.refl _ _).alloc (Nat.le_refl _) _)
  go_enter Try.func37, Try.ntmps37
  go_wp2_with fail
  refine wp_loop_rounds 5 ?_
  iterate 1 (rw [rounds_succ]; go_wp2_with fail)
  go_ret
  exact ⟨rfl, HB.out⟩

set_option maxRecDepth 100000 in
set_option maxHeartbeats 2000000 in
theorem is_weight_2 (x : Cd) (w : World) (h0 : x.a = 0) (g : x.b = 1) :
    Calls Try.prog 37 #[x.val] w fun e w' => e = .returned (.bool x.ok) ∧ Below w.heap.size w w' := by
  have f0 : (x.a != 0) = false := by simp [h0]
  have f1 : (x.b != 0) = true := by simp [g]
  have f9 : (x.b == 1) = true := by simp [g]
  clear h0 g
  have i0 : ∀ w : World, (Instr.index 33 x.val (.int .i64 0)).run Try.prog w = .ok (.int .i64 x.a) w := fun _ => by kernel_rfl
  have i1 : ∀ w : World, (Instr.index 33 x.val (.int .i64 1)).run Try.prog w = .ok (.int .i64 x.b) w := fun _ => by kernel_rfl
  have i2 : ∀ w : World, (Instr.index 33 x.val (.int .i64 2)).run Try.prog w = .ok (.int .i64 x.c) w := fun _ => by kernel_rfl
  have i3 : ∀ w : World, (Instr.index 33 x.val (.int .i64 3)).run Try.prog w = .ok (.int .i64 x.d) w := fun _ => by kernel_rfl
  have K0 : Hid (Box (w.alloc x.obj) w.heap.size x) := Lib.hid (Box.newAt rfl rfl)
  have HB : Hid (Below w.heap.size w (w.alloc x.obj)) := Lib.hid ((Below.refl _ _).alloc (Nat.le_refl _) _)
  go_enter Try.func37, Try.ntmps37
  go_wp2_with fail
  refine wp_loop_rounds 5 ?_
  iterate 2 (rw [rounds_succ]; go_wp2_with fail)
  refine (is_card x _).mono ?_
  rintro e w1 ⟨rfl, b⟩
  have HB2 := Lib.hid (chain0 HB.out b)
  clear b
  go_wp2_with fail
  go_ret
  exact ⟨rfl, HB2.out⟩

set_option maxRecDepth 100000 in
set_option maxHeartbeats 2000000 in
theorem is_weight_3 (x : Cd) (w : World) (h0 : x.a = 0) (g0 : x.b ≠ 0) (g : x.b ≠ 1) :
    Calls Try.prog 37 #[x.val] w fun e w' => e = .returned (.bool false) ∧ Below w.heap.size w w' := by
  have f0 : (x.a != 0) = false := by simp [h0]
  have f1 : (x.b != 0) = true := by simp [g0]
  have f9 : (x.b == 1) = false := by simp [g]
  clear h0 g0 g
  have i0 : ∀ w : World, (Instr.index 33 x.val (.int .i64 0)).run Try.prog w = .ok (.int .i64 x.a) w := fun _ => by kernel_rfl
  have i1 : ∀ w : World, (Instr.index 33 x.val (.int .i64 1)).run Try.prog w = .ok (.int .i64 x.b) w := fun _ => by kernel_rfl
  have i2 : ∀ w : World, (Instr.index 33 x.val (.int .i64 2)).run Try.prog w = .ok (.int .i64 x.c) w := fun _ => by kernel_rfl
  have i3 : ∀ w : World, (Instr.index 33 x.val (.int .i64 3)).run Try.prog w = .ok (.int .i64 x.d) w := fun _ => by kernel_rfl
  have K0 : Hid (Box (w.alloc x.obj) w.heap.size x) := Lib.hid (Box.newAt rfl rfl)
  have HB : Hid (Below w.heap.size w (w.alloc x.obj)) := Lib.hid ((Below.refl _ _).alloc (Nat.le_refl _) _)
  go_enter Try.func37, Try.ntmps37
  go_wp2_with fail
  refine wp_loop_rounds 5 ?_
  iterate 2 (rw [rounds_succ]; go_wp2_with fail)
  go_ret
  exact ⟨rfl, HB.out⟩

set_option maxRecDepth 100000 in
set_option maxHeartbeats 2000000 in
theorem is_weight_4 (x : Cd) (w : World) (h0 : x.a = 0) (h1 : x.b = 0) (g : x.c = 1) :
    Calls Try.prog 37 #[x.val] w fun e w' => e = .returned (.bool x.ok) ∧ Below w.heap.size w w' := by
  have f0 : (x.a != 0) = false := by simp [h0]
  have f1 : (x.b != 0) = false := by simp [h1]
  have f2 : (x.c != 0) = true := by simp [g]
  have f9 : (x.c == 1) = true := by simp [g]
  clear h0 h1 g
  have i0 : ∀ w : World, (Instr.index 33 x.val (.int .i64 0)).run Try.prog w = .ok (.int .i64 x.a) w := fun _ => by kernel_rfl
  have i1 : ∀ w : World, (Instr.index 33 x.val (.int .i64 1)).run Try.prog w = .ok (.int .i64 x.b) w := fun _ => by kernel_rfl
  have i2 : ∀ w : World, (Instr.index 33 x.val (.int .i64 2)).run Try.prog w = .ok (.int .i64 x.c) w := fun _ => by kernel_rfl
  have i3 : ∀ w : World, (Instr.index 33 x.val (.int .i64 3)).run Try.prog w = .ok (.int .i64 x.d) w := fun _ => by kernel_rfl
  have K0 : Hid (Box (w.alloc x.obj) w.heap.size x) := Lib.hid (Box.newAt rfl rfl)
  have HB : Hid (Below w.heap.size w (w.alloc x.obj)) := Lib.hid ((Below.refl _ _).alloc (Nat.le_refl _) _)
  go_enter Try.func37, Try.ntmps37
  go_wp2_with fail
  refine wp_loop_rounds 5 ?_
  iterate 3 (rw [rounds_succ]; go_wp2_with fail)
  refine (is_card x _).mono ?_
  rintro e w1 ⟨rfl, b⟩
  have HB2 := Lib.hid (chain0 HB.out b)
  clear b
  go_wp2_with fail
  go_ret
  exact ⟨rfl, HB2.out⟩

set_option maxRecDepth 100000 in
set_option maxHeartbeats 2000000 in
theorem is_weight_5 (x : Cd) (w : World) (h0 : x.a = 0) (h1 : x.b = 0) (g0 : x.c ≠ 0) (g : x.c ≠ 1) :
    Calls Try.prog 37 #[x.val] w fun e w' => e = .returned (.bool false) ∧ Below w.heap.size w w' := by
  have f0 : (x.a != 0) = false := by simp [h0]
  have f1 : (x.b != 0) = false := by simp [h1]
  have f2 : (x.c != 0) = true := by simp [g0]
  have f9 : (x.c == 1) = false := by simp [g]
  clear h0 h1 g0 g
  have i0 : ∀ w : World, (Instr.index 33 x.val (.int .i64 0)).run Try.prog w = .ok (.int .i64 x.a) w := fun _ => by kernel_rfl
  have i1 : ∀ w : World, (Instr.index 33 x.val (.int .i64 1)).run Try.prog w = .ok (.int .i64 x.b) w := fun _ => by kernel_rfl
  have i2 : ∀ w : World, (Instr.index 33 x.val (.int .i64 2)).run Try.prog w = .ok (.int .i64 x.c) w := fun _ => by kernel_rfl
  have i3 : ∀ w : World, (Instr.index 33 x.val (.int .i64 3)).run Try.prog w = .ok (.int .i64 x.d) w := fun _ => by kernel_rfl
  have K0 : Hid (Box (w.alloc x.obj) w.heap.size x) := Lib.hid (Box.newAt rfl rfl)
  have HB : Hid (Below w.heap.size w (w.alloc x.obj)) := Lib.hid ((Below.refl _ _).alloc (Nat.le_refl _) _)
  go_enter Try.func37, Try.ntmps37
  go_wp2_with fail
  refine wp_loop_rounds 5 ?_
  iterate 3 (rw [rounds_succ]; go_wp2_with fail)
  go_ret
  exact ⟨rfl, HB.out⟩

set_option maxRecDepth 100000 in
set_option maxHeartbeats 2000000 in
theorem is_weight_6 (x : Cd) (w : World) (h0 : x.a = 0) (h1 : x.b = 0) (h2 : x.c = 0) (g : x.d = 1) :
    Calls Try.prog 37 #[x.val] w fun e w' => e = .returned (.bool x.ok) ∧ Below w.heap.size w w' := by
  have f0 : (x.a != 0) = false := by simp [h0]
  have f1 : (x.b != 0) = false := by simp [h1]
  have f2 : (x.c != 0) = false := by simp [h2]
  have f3 : (x.d != 0) = true := by simp [g]
  have f9 : (x.d == 1) = true := by simp [g]
  clear h0 h1 h2 g
  have i0 : ∀ w : World, (Instr.index 33 x.val (.int .i64 0)).run Try.prog w = .ok (.int .i64 x.a) w := fun _ => by kernel_rfl
  have i1 : ∀ w : World, (Instr.index 33 x.val (.int .i64 1)).run Try.prog w = .ok (.int .i64 x.b) w := fun _ => by kernel_rfl
  have i2 : ∀ w : World, (Instr.index 33 x.val (.int .i64 2)).run Try.prog w = .ok (.int .i64 x.c) w := fun _ => by kernel_rfl
  have i3 : ∀ w : World, (Instr.index 33 x.val (.int .i64 3)).run Try.prog w = .ok (.int .i64 x.d) w := fun _ => by kernel_rfl
  have K0 : Hid (Box (w.alloc x.obj) w.heap.size x) := Lib.hid (Box.newAt rfl rfl)
  have HB : Hid (Below w.heap.size w (w.alloc x.obj)) := Lib.hid ((Below.refl _ _).alloc (Nat.le_refl _) _)
  go_enter Try.func37, Try.ntmps37
  go_wp2_with fail
  refine wp_loop_rounds 5 ?_
  iterate 4 (rw [rounds_succ]; go_wp2_with fail)
  refine (is_card x _).mono ?_
  rintro e w1 ⟨rfl, b⟩
  have HB2 := Lib.hid (chain0 HB.out b)
  clear b
  go_wp2_with fail
  go_ret
  exact ⟨rfl, HB2.out⟩

set_option maxRecDepth 100000 in
set_option maxHeartbeats 2000000 in
theorem is_weight_7 (x : Cd) (w : World) (h0 : x.a = 0) (h1 : x.b = 0) (h2 : x.c = 0) (g0 : x.d ≠ 0) (g : x.d ≠ 1) :
    Calls Try.prog 37 #[x.val] w fun e w' => e = .returned (.bool false) ∧ Below w.heap.size w w' := by
  have f0 : (x.a != 0) = false := by simp [h0]
  have f1 : (x.b != 0) = false := by simp [h1]
  have f2 : (x.c != 0) = false := by simp [h2]
  have f3 : (x.d != 0) = true := by simp [g0]
  have f9 : (x.d == 1) = false := by simp [g]
  clear h0 h1 h2 g0 g
  have i0 : ∀ w : World, (Instr.index 33 x.val (.int .i64 0)).run Try.prog w = .ok (.int .i64 x.a) w := fun _ => by kernel_rfl
  have i1 : ∀ w : World, (Instr.index 33 x.val (.int .i64 1)).run Try.prog w = .ok (.int .i64 x.b) w := fun _ => by kernel_rfl
  have i2 : ∀ w : World, (Instr.index 33 x.val (.int .i64 2)).run Try.prog w = .ok (.int .i64 x.c) w := fun _ => by kernel_rfl
  have i3 : ∀ w : World, (Instr.index 33 x.val (.int .i64 3)).run Try.prog w = .ok (.int .i64 x.d) w := fun _ => by kernel_rfl
  have K0 : Hid (Box (w.alloc x.obj) w.heap.size x) := Lib.hid (Box.newAt rfl rfl)
  have HB : Hid (Below w.heap.size w (w.alloc x.obj)) := Lib.hid ((Below.refl _ _).alloc (Nat.le_refl _) _)
  go_enter Try.func37, Try.ntmps37
  go_wp2_with fail
  refine wp_loop_rounds 5 ?_
  iterate 4 (rw [rounds_succ]; go_wp2_with fail)
  go_ret
  exact ⟨rfl, HB.out⟩

set_option maxRecDepth 100000 in
set_option maxHeartbeats 2000000 in
theorem is_weight_8 (x : Cd) (w : World) (h0 : x.a = 0) (h1 : x.b = 0) (h2 : x.c = 0) (h3 : x.d = 0) :
    Calls Try.prog 37 #[x.val] w fun e w' => e = .returned (.bool false) ∧ Below w.heap.size w w' := by
  have f0 : (x.a != 0) = false := by simp [h0]
  have f1 : (x.b != 0) = false := by simp [h1]
  have f2 : (x.c != 0) = false := by simp [h2]
  have f3 : (x.d != 0) = false := by simp [h3]
  clear h0 h1 h2 h3
  have i0 : ∀ w : World, (Instr.index 33 x.val (.int .i64 0)).run Try.prog w = .ok (.int .i64 x.a) w := fun _ => by kernel_rfl
  have i1 : ∀ w : World, (Instr.index 33 x.val (.int .i64 1)).run Try.prog w = .ok (.int .i64 x.b) w := fun _ => by kernel_rfl
  have i2 : ∀ w : World, (Instr.index 33 x.val (.int .i64 2)).run Try.prog w = .ok (.int .i64 x.c) w := fun _ => by kernel_rfl
  have i3 : ∀ w : World, (Instr.index 33 x.val (.int .i64 3)).run Try.prog w = .ok (.int .i64 x.d) w := fun _ => by kernel_rfl
  have K0 : Hid (Box (w.alloc x.obj) w.heap.size x) := Lib.hid (Box.newAt rfl rfl)
  have HB : Hid (Below w.heap.size w (w.alloc x.obj)) := Lib.hid ((Below.refl _ _).alloc (Nat.le_refl _) _)
  go_enter Try.func37, Try.ntmps37
  go_wp2_with fail
  refine wp_loop_rounds 5 ?_
  iterate 5 (rw [rounds_succ]; go_wp2_with fail)
  go_ret
  exact ⟨rfl, HB.out⟩

theorem is_weight (x : Cd) (w : World) :
    Calls Try.prog 37 #[x.val] w fun e w' => e = .returned (.bool (wtB x)) ∧ Below w.heap.size w w' := by
  by_cases g : x.a = 1
  · have e : x.ok = wtB x := by unfold wtB lead; simp [g]
    rw [← e]; exact is_weight_0 x w  g
  by_cases h0 : x.a = 0
  · skip
    by_cases g : x.b = 1
    · have e : x.ok = wtB x := by unfold wtB lead; simp [h0, g]
      rw [← e]; exact is_weight_2 x w h0 g
    by_cases h1 : x.b = 0
    · skip
      by_cases g : x.c = 1
      · have e : x.ok = wtB x := by unfold wtB lead; simp [h0, h1, g]
        rw [← e]; exact is_weight_4 x w h0 h1 g
      by_cases h2 : x.c = 0
      · skip
        by_cases g : x.d = 1
        · have e : x.ok = wtB x := by unfold wtB lead; simp [h0, h1, h2, g]
          rw [← e]; exact is_weight_6 x w h0 h1 h2 g
        by_cases h3 : x.d = 0
        · skip
          have e : false = wtB x := by unfold wtB lead; simp [h0, h1, h2, h3]
          rw [← e]; exact is_weight_8 x w h0 h1 h2 h3
        · have e : false = wtB x := by unfold wtB lead; simp [h0, h1, h2, h3, g]
          rw [← e]; exact is_weight_7 x w h0 h1 h2 h3 g
      · have e : false = wtB x := by unfold wtB lead; simp [h0, h1, h2, g]
        rw [← e]; exact is_weight_5 x w h0 h1 h2 g
    · have e : false = wtB x := by unfold wtB lead; simp [h0, h1, g]
      rw [← e]; exact is_weight_3 x w h0 h1 g
  · have e : false = wtB x := by unfold wtB lead; simp [h0, g]
    rw [← e]; exact is_weight_1 x w  h0 g

set_option maxRecDepth 100000 in
set_option maxHeartbeats 2000000 in
theorem l6_weight_0 (x : Cd) (w : World) (g : x.a = 1) :
    Calls Try.prog 63 #[x.val] w fun e w' => e = .returned (.bool x.ok) ∧ Below w.heap.size w w' := by
  have f0 : (x.a != 0) = true := by simp [g]
  have f9 : (x.a == 1) = true := by simp [g]
  clear g
  have K0 : Hid (Box (w.alloc x.obj) w.heap.size x) := Lib.hid (Box.newAt rfl rfl)
  have HB : Hid (Below w.heap.size w (w.alloc x.obj)) := Lib.hid ((Below.refl _ _).alloc (Nat.le_refl _) _)
  go_enter Try.func63, Try.ntmps63
  go_wp2_with fail
  refine wp_loop_rounds 5 ?_
  iterate 1 (rw [rounds_succ]; go_wp2_with fail)
  refine (l2_card x _).mono ?_
  rintro e w1 ⟨rfl, b⟩
  have HB2 := Lib.hid (chain0 HB.out b)
  clear b
  go_wp2_with fail
  go_ret
  exact ⟨rfl, HB2.out⟩

set_option maxRecDepth 100000 in
set_option maxHeartbeats 2000000 in
theorem l6_weight_1 (x : Cd) (w : World) (g0 : x.a ≠ 0) (g : x.a ≠ 1) :
    Calls Try.prog 63 #[x.val] w fun e w' => e = .returned (.bool false) ∧ Below w.heap.size w w' := by
  have f0 : (x.a != 0) = true := by simp [g0]
  have f9 : (x.a == 1) = false := by simp [g]
  clear g0 g
  have K0 : Hid (Box (w.alloc x.obj) w.heap.size x) := Lib.hid (Box.newAt rfl rfl)
  have HB : Hid (Below w.heap.size w (w.alloc x.obj)) := Lib.hid ((Below.refl _ _).alloc (Nat.le_refl _) _)
  go_enter Try.func63, Try.ntmps63
  go_wp2_with fail
  refine wp_loop_rounds 5 ?_
  iterate 1 (rw [rounds_succ]; go_wp2_with fail)
  go_ret
  exact ⟨rfl, HB.out⟩

set_option maxRecDepth 100000 in
set_option maxHeartbeats 2000000 in
theorem l6_weight_2 (x : Cd) (w : World) (h0 : x.a = 0) (g : x.b = 1) :
    Calls Try.prog 63 #[x.val] w fun e w' => e = .returned (.bool x.ok) ∧ Below w.heap.size w w' := by
  have f0 : (x.a != 0) = false := by simp [h0]
  have f1 : (x.b != 0) = true := by simp [g]
  have f9 : (x.b == 1) = true := by simp [g]
  clear h0 g
  have K0 : Hid (Box (w.alloc x.obj) w.heap.size x) := Lib.hid (Box.newAt rfl rfl)
  have HB : Hid (Below w.heap.size w (w.alloc x.obj)) := Lib.hid ((Below.refl _ _).alloc (Nat.le_refl _) _)
  go_enter Try.func63, Try.ntmps63
  go_wp2_with fail
  refine wp_loop_rounds 5 ?_
  iterate 2 (rw [rounds_succ]; go_wp2_with fail)
  refine (l2_card x _).mono ?_
  rintro e w1 ⟨rfl, b⟩
  have HB2 := Lib.hid (chain0 HB.out b)
  clear b
  go_wp2_with fail
  go_ret
  exact ⟨rfl, HB2.out⟩

set_option maxRecDepth 100000 in
set_option maxHeartbeats 2000000 in
theorem l6_weight_3 (x : Cd) (w : World) (h0 : x.a = 0) (g0 : x.b ≠ 0) (g : x.b ≠ 1) :
    Calls Try.prog 63 #[x.val] w fun e w' => e = .returned (.bool false) ∧ Below w.heap.size w w' := by
  have f0 : (x.a != 0) = false := by simp [h0]
  have f1 : (x.b != 0) = true := by simp [g0]
  have f9 : (x.b == 1) = false := by simp [g]
  clear h0 g0 g
  have K0 : Hid (Box (w.alloc x.obj) w.heap.size x) := Lib.hid (Box.newAt rfl rfl)
  have HB : Hid (Below w.heap.size w (w.alloc x.obj)) := Lib.hid ((Below.refl _ _).alloc (Nat.le_refl _) _)
  go_enter Try.func63, Try.ntmps63
  go_wp2_with fail
  refine wp_loop_rounds 5 ?_
  iterate 2 (rw [rounds_succ]; go_wp2_with fail)
  go_ret
  exact ⟨rfl, HB.out⟩

set_option maxRecDepth 100000 in
set_option maxHeartbeats 2000000 in
theorem l6_weight_4 (x : Cd) (w : World) (h0 : x.a = 0) (h1 : x.b = 0) (g : x.c = 1) :
    Calls Try.prog 63 #[x.val] w fun e w' => e = .returned (.bool x.ok) ∧ Below w.heap.size w w' := by
  have f0 : (x.a != 0) = false := by simp [h0]
  have f1 : (x.b != 0) = false := by simp [h1]
  have f2 : (x.c != 0) = true := by simp [g]
  have f9 : (x.c == 1) = true := by simp [g]
  clear h0 h1 g
  have K0 : Hid (Box (w.alloc x.obj) w.heap.size x) := Lib.hid (Box.newAt rfl rfl)
  have HB : Hid (Below w.heap.size w (w.alloc x.obj)) := Lib.hid ((Below.refl _ _).alloc (Nat.le_refl _) _)
  go_enter Try.func63, Try.ntmps63
  go_wp2_with fail
  refine wp_loop_rounds 5 ?_
  iterate 3 (rw [rounds_succ]; go_wp2_with fail)
  refine (l2_card x _).mono ?_
  rintro e w1 ⟨rfl, b⟩
  have HB2 := Lib.hid (chain0 HB.out b)
  clear b
  go_wp2_with fail
  go_ret
  exact ⟨rfl, HB2.out⟩

set_option maxRecDepth 100000 in
set_option maxHeartbeats 2000000 in
theorem l6_weight_5 (x : Cd) (w : World) (h0 : x.a = 0) (h1 : x.b = 0) (g0 : x.c ≠ 0) (g : x.c ≠ 1) :
    Calls Try.prog 63 #[x.val] w fun e w' => e = .returned (.bool false) ∧ Below w.heap.size w w' := by
  have f0 : (x.a != 0) = false := by simp [h0]
  have f1 : (x.b != 0) = false := by simp [h1]
  have f2 : (x.c != 0) = true := by simp [g0]
  have f9 : (x.c == 1) = false := by simp [g]
  clear h0 h1 g0 g
  have K0 : Hid (Box (w.alloc x.obj) w.heap.size x) := Lib.hid (Box.newAt rfl rfl)
  have HB : Hid (Below w.heap.size w (w.alloc x.obj)) := Lib.hid ((Below.refl _ _).alloc (Nat.le_refl _) _)
  go_enter Try.func63, Try.ntmps63
  go_wp2_with fail
  refine wp_loop_rounds 5 ?_
  iterate 3 (rw [rounds_succ]; go_wp2_with fail)
  go_ret
  exact ⟨rfl, HB.out⟩

set_option maxRecDepth 100000 in
set_option maxHeartbeats 2000000 in
theorem l6_weight_6 (x : Cd) (w : World) (h0 : x.a = 0) (h1 : x.b = 0) (h2 : x.c = 0) (g : x.d = 1) :
    Calls Try.prog 63 #[x.val] w fun e w' => e = .returned (.bool x.ok) ∧ Below w.heap.size w w' := by
  have f0 : (x.a != 0) = false := by simp [h0]
  have f1 : (x.b != 0) = false := by simp [h1]
  have f2 : (x.c != 0) = false := by simp [h2]
  have f3 : (x.d != 0) = true := by simp [g]
  have f9 : (x.d == 1) = true := by simp [g]
  clear h0 h1 h2 g
  have K0 : Hid (Box (w.alloc x.obj) w.heap.size x) := Lib.hid (Box.newAt rfl rfl)
  have HB : Hid (Below w.heap.size w (w.alloc x.obj)) := Lib.hid ((Below.refl _ _).alloc (Nat.le_refl _) _)
  go_enter Try.func63, Try.ntmps63
  go_wp2_with fail
  refine wp_loop_rounds 5 ?_
  iterate 4 (rw [rounds_succ]; go_wp2_with fail)
  refine (l2_card x _).mono ?_
  rintro e w1 ⟨rfl, b⟩
  have HB2 := Lib.hid (chain0 HB.out b)
  clear b
  go_wp2_with fail
  go_ret
  exact ⟨rfl, HB2.out⟩

set_option maxRecDepth 100000 in
set_option maxHeartbeats 2000000 in
theorem l6_weight_7 (x : Cd) (w : World) (h0 : x.a = 0) (h1 : x.b = 0) (h2 : x.c = 0) (g0 : x.d ≠ 0) (g : x.d ≠ 1) :
    Calls Try.prog 63 #[x.val] w fun e w' => e = .returned (.bool false) ∧ Below w.heap.size w w' := by
  have f0 : (x.a != 0) = false := by simp [h0]
  have f1 : (x.b != 0) = false := by simp [h1]
  have f2 : (x.c != 0) = false := by simp [h2]
  have f3 : (x.d != 0) = true := by simp [g0]
  have f9 : (x.d == 1) = false := by simp [g]
  clear h0 h1 h2 g0 g
  have K0 : Hid (Box (w.alloc x.obj) w.heap.size x) := Lib.hid (Box.newAt rfl rfl)
  have HB : Hid (Below w.heap.size w (w.alloc x.obj)) := Lib.hid ((Below.refl _ _).alloc (Nat.le_refl _) _)
  go_enter Try.func63, Try.ntmps63
  go_wp2_with fail
  refine wp_loop_rounds 5 ?_
  iterate 4 (rw [rounds_succ]; go_wp2_with fail)
  go_ret
  exact ⟨rfl, HB.out⟩

set_option maxRecDepth 100000 in
set_option maxHeartbeats 2000000 in
theorem l6_weight_8 (x : Cd) (w : World) (h0 : x.a = 0) (h1 : x.b = 0) (h2 : x.c = 0) (h3 : x.d = 0) :
    Calls Try.prog 63 #[x.val] w fun e w' => e = .returned (.bool false) ∧ Below w.heap.size w w' := by
  have f0 : (x.a != 0) = false := by simp [h0]
  have f1 : (x.b != 0) = false := by simp [h1]
  have f2 : (x.c != 0) = false := by simp [h2]
  have f3 : (x.d != 0) = false := by simp [h3]
  clear h0 h1 h2 h3
  have K0 : Hid (Box (w.alloc x.obj) w.heap.size x) := Lib.hid (Box.newAt rfl rfl)
  have HB : Hid (Below w.heap.size w (w.alloc x.obj)) := Lib.hid ((Below.refl _ _).alloc (Nat.le_refl _) _)
  go_enter Try.func63, Try.ntmps63
  go_wp2_with fail
  refine wp_loop_rounds 5 ?_
  iterate 5 (rw [rounds_succ]; go_wp2_with fail)
  go_ret
  exact ⟨rfl, HB.out⟩

theorem l6_weight (x : Cd) (w : World) :
    Calls Try.prog 63 #[x.val] w fun e w' => e = .returned (.bool (wtB x)) ∧ Below w.heap.size w w' := by
  by_cases g : x.a = 1
  · have e : x.ok = wtB x := by unfold wtB lead; simp [g]
    rw [← e]; exact l6_weight_0 x w  g
  by_cases h0 : x.a = 0
  · skip
    by_cases g : x.b = 1
    · have e : x.ok = wtB x := by unfold wtB lead; simp [h0, g]
      rw [← e]; exact l6_weight_2 x w h0 g
    by_cases h1 : x.b = 0
    · skip
      by_cases g : x.c = 1
      · have e : x.ok = wtB x := by unfold wtB lead; simp [h0, h1, g]
        rw [← e]; exact l6_weight_4 x w h0 h1 g
      by_cases h2 : x.c = 0
      · skip
        by_cases g : x.d = 1
        · have e : x.ok = wtB x := by unfold wtB lead; simp [h0, h1, h2, g]
          rw [← e]; exact l6_weight_6 x w h0 h1 h2 g
        by_cases h3 : x.d = 0
        · skip
          have e : false = wtB x := by unfold wtB lead; simp [h0, h1, h2, h3]
          rw [← e]; exact l6_weight_8 x w h0 h1 h2 h3
        · have e : false = wtB x := by unfold wtB lead; simp [h0, h1, h2, h3, g]
          rw [← e]; exact l6_weight_7 x w h0 h1 h2 h3 g
      · have e : false = wtB x := by unfold wtB lead; simp [h0, h1, h2, g]
        rw [← e]; exact l6_weight_5 x w h0 h1 h2 g
    · have e : false = wtB x := by unfold wtB lead; simp [h0, h1, g]
      rw [← e]; exact l6_weight_3 x w h0 h1 g
  · have e : false = wtB x := by unfold wtB lead; simp [h0, g]
    rw [← e]; exact l6_weight_1 x w  h0 g

set_option maxRecDepth 100000 in
set_option maxHeartbeats 2000000 in
theorem spec_weight (x : Cd) (w : World) :
    Calls Try.prog 36 #[x.val] w fun e w' => e = .returned (.bool (wtB x)) ∧ Below w.heap.size w w' := by
  go_enter Try.func36, Try.ntmps36
  go_wp2_with fail
  refine ((l6_weight x _)).mono ?_
  rintro e w1 ⟨rfl, b⟩
  have Sw1 := Lib.hid b.size
  have HB := Lib.hid (chain0 (w := w) (by repeat (first | with_reducible exact Below.refl _ _ | with_reducible exact HB.out | with_reducible apply Below.drew | with_reducible apply bdN | with_reducible refine Below.alloc ?_ (by first | exact Nat.le_refl _ | with_reducible exact HB.out.size | omega | (simp; done) | (simp; omega) | (have := HB.out.size; simp at *; omega)) _ | with_reducible refine Below.setCell ?_ (by first | exact Nat.le_refl _ | with_reducible exact HB.out.size | omega | (simp; done) | (simp; omega) | (have := HB.out.size; simp at *; omega)) _)) b)
  have K0 : Hid (Box _ (w.heap.size) (x)) := Lib.hid (Box.below (by repeat (first | with_reducible exact K0.out | with_reducible apply Box.drewN | with_reducible apply Box.drew | (with_reducible refine Box.newAt ?_ ?_ <;> first | (simp; done) | rfl) | with_reducible apply Box.alloc)) b)
  try clear k0a k0b k0c k0d k0z
  have k0z := K0.out.lt
  obtain ⟨k0a, k0b, k0c, k0d⟩ := K0.out.cell
  clear b
  go_wp2_with fail
  go_ret
  exact ⟨rfl, by repeat (first | with_reducible exact Below.refl _ _ | with_reducible exact HB.out | with_reducible apply Below.drew | with_reducible apply bdN | with_reducible refine Below.alloc ?_ (by first | exact Nat.le_refl _ | with_reducible exact HB.out.size | omega | (simp; done) | (simp; omega) | (have := HB.out.size; simp at *; omega)) _ | with_reducible refine Below.setCell ?_ (by first | exact Nat.le_refl _ | with_reducible exact HB.out.size | omega | (simp; done) | (simp; omega) | (have := HB.out.size; simp at *; omega)) _)⟩

/-- The value of a card by a weight. -/
def val (x y : Cd) : Int := (x.a * y.a + x.b * y.b + x.c * y.c + x.d * y.d) % 3
theorem mul_bd {a b : Int} (h0 : 0 ≤ a) (h1 : a ≤ 2) (h2 : 0 ≤ b) (h3 : b ≤ 2) : 0 ≤ a * b ∧ a * b ≤ 4 := by
  have : a = 0 ∨ a = 1 ∨ a = 2 := by omega
  rcases this with rfl | rfl | rfl <;> omega
theorem val_bd (x y : Cd) : 0 ≤ val x y ∧ val x y < 3 := by unfold val; omega

set_option maxRecDepth 100000 in
set_option maxHeartbeats 4000000 in
theorem value_by (x y : Cd) (w : World) (hx : x.ok = true) (hy : y.ok = true) :
    Calls Try.prog 67 #[x.val, y.val] w fun e w' => e = .returned (.int .i64 (val x y)) ∧ Below w.heap.size w w' := by
  obtain ⟨⟨x1, x2⟩, ⟨x3, x4⟩, ⟨x5, x6⟩, x7, x8⟩ := Cd.bd hx
  obtain ⟨⟨y1, y2⟩, ⟨y3, y4⟩, ⟨y5, y6⟩, y7, y8⟩ := Cd.bd hy
  obtain ⟨a1, a2⟩ := mul_bd x1 x2 y1 y2
  obtain ⟨b1, b2⟩ := mul_bd x3 x4 y3 y4
  obtain ⟨c1, c2⟩ := mul_bd x5 x6 y5 y6
  obtain ⟨d1, d2⟩ := mul_bd x7 x8 y7 y8
  clear hx hy x1 x2 x3 x4 x5 x6 x7 x8 y1 y2 y3 y4 y5 y6 y7 y8
  have i0 : ∀ w : World, (Instr.index 33 x.val (.int .i64 0)).run Try.prog w = .ok (.int .i64 x.a) w := fun _ => by kernel_rfl
  have i1 : ∀ w : World, (Instr.index 33 x.val (.int .i64 1)).run Try.prog w = .ok (.int .i64 x.b) w := fun _ => by kernel_rfl
  have i2 : ∀ w : World, (Instr.index 33 x.val (.int .i64 2)).run Try.prog w = .ok (.int .i64 x.c) w := fun _ => by kernel_rfl
  have i3 : ∀ w : World, (Instr.index 33 x.val (.int .i64 3)).run Try.prog w = .ok (.int .i64 x.d) w := fun _ => by kernel_rfl
  go_enter Try.func67, Try.ntmps67
  go_wp2
  refine wp_loop_rounds 5 ?_
  repeat (rw [rounds_succ]; go_wp2)
  go_ret
  exact ⟨ret_int (by unfold val; simp), by repeat (first | with_reducible exact Below.refl _ _ | with_reducible exact HB.out | with_reducible apply Below.drew | with_reducible apply bdN | with_reducible refine Below.alloc ?_ (by first | exact Nat.le_refl _ | with_reducible exact HB.out.size | omega | (simp; done) | (simp; omega) | (have := HB.out.size; simp at *; omega)) _ | with_reducible refine Below.setCell ?_ (by first | exact Nat.le_refl _ | with_reducible exact HB.out.size | omega | (simp; done) | (simp; omega) | (have := HB.out.size; simp at *; omega)) _)⟩

set_option maxRecDepth 100000 in
set_option maxHeartbeats 4000000 in
theorem l6_value (x y : Cd) (w : World) (hx : x.ok = true) (hy : y.ok = true) :
    Calls Try.prog 66 #[x.val, y.val] w fun e w' => e = .returned (.int .i64 (val x y)) ∧ Below w.heap.size w w' := by
  obtain ⟨⟨x1, x2⟩, ⟨x3, x4⟩, ⟨x5, x6⟩, x7, x8⟩ := Cd.bd hx
  obtain ⟨⟨y1, y2⟩, ⟨y3, y4⟩, ⟨y5, y6⟩, y7, y8⟩ := Cd.bd hy
  obtain ⟨a1, a2⟩ := mul_bd x1 x2 y1 y2
  obtain ⟨b1, b2⟩ := mul_bd x3 x4 y3 y4
  obtain ⟨c1, c2⟩ := mul_bd x5 x6 y5 y6
  obtain ⟨d1, d2⟩ := mul_bd x7 x8 y7 y8
  clear hx hy x1 x2 x3 x4 x5 x6 x7 x8 y1 y2 y3 y4 y5 y6 y7 y8
  go_enter Try.func66, Try.ntmps66
  go_wp2
  go_ret
  exact ⟨ret_int (by unfold val; simp), by repeat (first | with_reducible exact Below.refl _ _ | with_reducible exact HB.out | with_reducible apply Below.drew | with_reducible apply bdN | with_reducible refine Below.alloc ?_ (by first | exact Nat.le_refl _ | with_reducible exact HB.out.size | omega | (simp; done) | (simp; omega) | (have := HB.out.size; simp at *; omega)) _ | with_reducible refine Below.setCell ?_ (by first | exact Nat.le_refl _ | with_reducible exact HB.out.size | omega | (simp; done) | (simp; omega) | (have := HB.out.size; simp at *; omega)) _)⟩

/-- What ValueBy returns. -/
def vbR (x y : Cd) : Int × Bool := if x.ok = true ∧ wtB y = true then (val x y, true) else (0, false)

set_option maxRecDepth 100000 in
set_option maxHeartbeats 4000000 in
theorem impl_vb (x y : Cd) (w : World) :
    Calls Try.prog 39 #[x.val, y.val] w fun e w' => e = .returned (.tuple #[.int .i64 (vbR x y).1, .bool (vbR x y).2]) ∧ Below w.heap.size w w' := by
  have HI := Lib.hid (fun w => is_card x w)
  have HJ := Lib.hid (fun w => is_weight y w)
  cases hx : x.ok
  · have HT := Lib.hid (show vbR x y = (0, false) by unfold vbR; rw [if_neg (by simp [hx])])
    rw [hx] at HI
    clear hx
    go_enter Try.func39, Try.ntmps39
    go_wp2_with fail
    refine ((HI.out _)).mono ?_
    rintro e w1 ⟨rfl, b⟩
    have Sw1 := Lib.hid b.size
    have HB := Lib.hid (chain0 (w := w) (by repeat (first | with_reducible exact Below.refl _ _ | with_reducible exact HB.out | with_reducible apply Below.drew | with_reducible apply bdN | with_reducible refine Below.alloc ?_ (by first | exact Nat.le_refl _ | with_reducible exact HB.out.size | omega | (simp; done) | (simp; omega) | (have := HB.out.size; simp at *; omega)) _ | with_reducible refine Below.setCell ?_ (by first | exact Nat.le_refl _ | with_reducible exact HB.out.size | omega | (simp; done) | (simp; omega) | (have := HB.out.size; simp at *; omega)) _)) b)
    have K0 : Hid (Box _ (w.heap.size) (x)) := Lib.hid (Box.below (by repeat (first | with_reducible exact K0.out | with_reducible apply Box.drewN | with_reducible apply Box.drew | (with_reducible refine Box.newAt ?_ ?_ <;> first | (simp; done) | rfl) | with_reducible apply Box.alloc)) b)
    have K1 : Hid (Box _ (w.heap.size + 1) (y)) := Lib.hid (Box.below (by repeat (first | with_reducible exact K1.out | with_reducible apply Box.drewN | with_reducible apply Box.drew | (with_reducible refine Box.newAt ?_ ?_ <;> first | (simp; done) | rfl) | with_reducible apply Box.alloc)) b)
    try clear k0a k0b k0c k0d k0z
    have k0z := K0.out.lt
    obtain ⟨k0a, k0b, k0c, k0d⟩ := K0.out.cell
    try clear k1a k1b k1c k1d k1z
    have k1z := K1.out.lt
    obtain ⟨k1a, k1b, k1c, k1d⟩ := K1.out.cell
    clear b
    go_wp2_with fail
    go_ret2
    exact ⟨by rw [HT.out]; rfl, by repeat (first | with_reducible exact Below.refl _ _ | with_reducible exact HB.out | with_reducible apply Below.drew | with_reducible apply bdN | with_reducible refine Below.alloc ?_ (by first | exact Nat.le_refl _ | with_reducible exact HB.out.size | omega | (simp; done) | (simp; omega) | (have := HB.out.size; simp at *; omega)) _ | with_reducible refine Below.setCell ?_ (by first | exact Nat.le_refl _ | with_reducible exact HB.out.size | omega | (simp; done) | (simp; omega) | (have := HB.out.size; simp at *; omega)) _)⟩
  · rw [hx] at HI
    cases hy : wtB y
    · have HT := Lib.hid (show vbR x y = (0, false) by unfold vbR; rw [if_neg (by simp [hy])])
      rw [hy] at HJ
      clear hx hy
      go_enter Try.func39, Try.ntmps39
      go_wp2_with fail
      refine ((HI.out _)).mono ?_
      rintro e w1 ⟨rfl, b⟩
      have Sw1 := Lib.hid b.size
      have HB := Lib.hid (chain0 (w := w) (by repeat (first | with_reducible exact Below.refl _ _ | with_reducible exact HB.out | with_reducible apply Below.drew | with_reducible apply bdN | with_reducible refine Below.alloc ?_ (by first | exact Nat.le_refl _ | with_reducible exact HB.out.size | omega | (simp; done) | (simp; omega) | (have := HB.out.size; simp at *; omega)) _ | with_reducible refine Below.setCell ?_ (by first | exact Nat.le_refl _ | with_reducible exact HB.out.size | omega | (simp; done) | (simp; omega) | (have := HB.out.size; simp at *; omega)) _)) b)
      have K0 : Hid (Box _ (w.heap.size) (x)) := Lib.hid (Box.below (by repeat (first | with_reducible exact K0.out | with_reducible apply Box.drewN | with_reducible apply Box.drew | (with_reducible refine Box.newAt ?_ ?_ <;> first | (simp; done) | rfl) | with_reducible apply Box.alloc)) b)
      have K1 : Hid (Box _ (w.heap.size + 1) (y)) := Lib.hid (Box.below (by repeat (first | with_reducible exact K1.out | with_reducible apply Box.drewN | with_reducible apply Box.drew | (with_reducible refine Box.newAt ?_ ?_ <;> first | (simp; done) | rfl) | with_reducible apply Box.alloc)) b)
      try clear k0a k0b k0c k0d k0z
      have k0z := K0.out.lt
      obtain ⟨k0a, k0b, k0c, k0d⟩ := K0.out.cell
      try clear k1a k1b k1c k1d k1z
      have k1z := K1.out.lt
      obtain ⟨k1a, k1b, k1c, k1d⟩ := K1.out.cell
      clear b
      go_wp2_with fail
      refine ((HJ.out _)).mono ?_
      rintro e w2 ⟨rfl, b⟩
      have Sw2 := Lib.hid b.size
      have HB := Lib.hid (chain0 (w := w) (by repeat (first | with_reducible exact Below.refl _ _ | with_reducible exact HB.out | with_reducible apply Below.drew | with_reducible apply bdN | with_reducible refine Below.alloc ?_ (by first | exact Nat.le_refl _ | with_reducible exact HB.out.size | omega | (simp; done) | (simp; omega) | (have := HB.out.size; simp at *; omega)) _ | with_reducible refine Below.setCell ?_ (by first | exact Nat.le_refl _ | with_reducible exact HB.out.size | omega | (simp; done) | (simp; omega) | (have := HB.out.size; simp at *; omega)) _)) b)
      have K0 : Hid (Box _ (w.heap.size) (x)) := Lib.hid (Box.below (by repeat (first | with_reducible exact K0.out | with_reducible apply Box.drewN | with_reducible apply Box.drew | (with_reducible refine Box.newAt ?_ ?_ <;> first | (simp; done) | rfl) | with_reducible apply Box.alloc)) b)
      have K1 : Hid (Box _ (w.heap.size + 1) (y)) := Lib.hid (Box.below (by repeat (first | with_reducible exact K1.out | with_reducible apply Box.drewN | with_reducible apply Box.drew | (with_reducible refine Box.newAt ?_ ?_ <;> first | (simp; done) | rfl) | with_reducible apply Box.alloc)) b)
      try clear k0a k0b k0c k0d k0z
      have k0z := K0.out.lt
      obtain ⟨k0a, k0b, k0c, k0d⟩ := K0.out.cell
      try clear k1a k1b k1c k1d k1z
      have k1z := K1.out.lt
      obtain ⟨k1a, k1b, k1c, k1d⟩ := K1.out.cell
      clear b
      go_wp2_with fail
      go_ret2
      exact ⟨by rw [HT.out]; rfl, by repeat (first | with_reducible exact Below.refl _ _ | with_reducible exact HB.out | with_reducible apply Below.drew | with_reducible apply bdN | with_reducible refine Below.alloc ?_ (by first | exact Nat.le_refl _ | with_reducible exact HB.out.size | omega | (simp; done) | (simp; omega) | (have := HB.out.size; simp at *; omega)) _ | with_reducible refine Below.setCell ?_ (by first | exact Nat.le_refl _ | with_reducible exact HB.out.size | omega | (simp; done) | (simp; omega) | (have := HB.out.size; simp at *; omega)) _)⟩
    · have HT := Lib.hid (show vbR x y = (val x y, true) by unfold vbR; rw [if_pos ⟨hx, hy⟩])
      have HV := Lib.hid (fun w => value_by x y w hx (wtB_ok hy))
      rw [hy] at HJ
      clear hx hy
      go_enter Try.func39, Try.ntmps39
      go_wp2_with fail
      refine ((HI.out _)).mono ?_
      rintro e w1 ⟨rfl, b⟩
      have Sw1 := Lib.hid b.size
      have HB := Lib.hid (chain0 (w := w) (by repeat (first | with_reducible exact Below.refl _ _ | with_reducible exact HB.out | with_reducible apply Below.drew | with_reducible apply bdN | with_reducible refine Below.alloc ?_ (by first | exact Nat.le_refl _ | with_reducible exact HB.out.size | omega | (simp; done) | (simp; omega) | (have := HB.out.size; simp at *; omega)) _ | with_reducible refine Below.setCell ?_ (by first | exact Nat.le_refl _ | with_reducible exact HB.out.size | omega | (simp; done) | (simp; omega) | (have := HB.out.size; simp at *; omega)) _)) b)
      have K0 : Hid (Box _ (w.heap.size) (x)) := Lib.hid (Box.below (by repeat (first | with_reducible exact K0.out | with_reducible apply Box.drewN | with_reducible apply Box.drew | (with_reducible refine Box.newAt ?_ ?_ <;> first | (simp; done) | rfl) | with_reducible apply Box.alloc)) b)
      have K1 : Hid (Box _ (w.heap.size + 1) (y)) := Lib.hid (Box.below (by repeat (first | with_reducible exact K1.out | with_reducible apply Box.drewN | with_reducible apply Box.drew | (with_reducible refine Box.newAt ?_ ?_ <;> first | (simp; done) | rfl) | with_reducible apply Box.alloc)) b)
      try clear k0a k0b k0c k0d k0z
      have k0z := K0.out.lt
      obtain ⟨k0a, k0b, k0c, k0d⟩ := K0.out.cell
      try clear k1a k1b k1c k1d k1z
      have k1z := K1.out.lt
      obtain ⟨k1a, k1b, k1c, k1d⟩ := K1.out.cell
      clear b
      go_wp2_with fail
      refine ((HJ.out _)).mono ?_
      rintro e w2 ⟨rfl, b⟩
      have Sw2 := Lib.hid b.size
      have HB := Lib.hid (chain0 (w := w) (by repeat (first | with_reducible exact Below.refl _ _ | with_reducible exact HB.out | with_reducible apply Below.drew | with_reducible apply bdN | with_reducible refine Below.alloc ?_ (by first | exact Nat.le_refl _ | with_reducible exact HB.out.size | omega | (simp; done) | (simp; omega) | (have := HB.out.size; simp at *; omega)) _ | with_reducible refine Below.setCell ?_ (by first | exact Nat.le_refl _ | with_reducible exact HB.out.size | omega | (simp; done) | (simp; omega) | (have := HB.out.size; simp at *; omega)) _)) b)
      have K0 : Hid (Box _ (w.heap.size) (x)) := Lib.hid (Box.below (by repeat (first | with_reducible exact K0.out | with_reducible apply Box.drewN | with_reducible apply Box.drew | (with_reducible refine Box.newAt ?_ ?_ <;> first | (simp; done) | rfl) | with_reducible apply Box.alloc)) b)
      have K1 : Hid (Box _ (w.heap.size + 1) (y)) := Lib.hid (Box.below (by repeat (first | with_reducible exact K1.out | with_reducible apply Box.drewN | with_reducible apply Box.drew | (with_reducible refine Box.newAt ?_ ?_ <;> first | (simp; done) | rfl) | with_reducible apply Box.alloc)) b)
      try clear k0a k0b k0c k0d k0z
      have k0z := K0.out.lt
      obtain ⟨k0a, k0b, k0c, k0d⟩ := K0.out.cell
      try clear k1a k1b k1c k1d k1z
      have k1z := K1.out.lt
      obtain ⟨k1a, k1b, k1c, k1d⟩ := K1.out.cell
      clear b
      go_wp2_with fail
      refine ((HV.out _)).mono ?_
      rintro e w3 ⟨rfl, b⟩
      have Sw3 := Lib.hid b.size
      have HB := Lib.hid (chain0 (w := w) (by repeat (first | with_reducible exact Below.refl _ _ | with_reducible exact HB.out | with_reducible apply Below.drew | with_reducible apply bdN | with_reducible refine Below.alloc ?_ (by first | exact Nat.le_refl _ | with_reducible exact HB.out.size | omega | (simp; done) | (simp; omega) | (have := HB.out.size; simp at *; omega)) _ | with_reducible refine Below.setCell ?_ (by first | exact Nat.le_refl _ | with_reducible exact HB.out.size | omega | (simp; done) | (simp; omega) | (have := HB.out.size; simp at *; omega)) _)) b)
      have K0 : Hid (Box _ (w.heap.size) (x)) := Lib.hid (Box.below (by repeat (first | with_reducible exact K0.out | with_reducible apply Box.drewN | with_reducible apply Box.drew | (with_reducible refine Box.newAt ?_ ?_ <;> first | (simp; done) | rfl) | with_reducible apply Box.alloc)) b)
      have K1 : Hid (Box _ (w.heap.size + 1) (y)) := Lib.hid (Box.below (by repeat (first | with_reducible exact K1.out | with_reducible apply Box.drewN | with_reducible apply Box.drew | (with_reducible refine Box.newAt ?_ ?_ <;> first | (simp; done) | rfl) | with_reducible apply Box.alloc)) b)
      try clear k0a k0b k0c k0d k0z
      have k0z := K0.out.lt
      obtain ⟨k0a, k0b, k0c, k0d⟩ := K0.out.cell
      try clear k1a k1b k1c k1d k1z
      have k1z := K1.out.lt
      obtain ⟨k1a, k1b, k1c, k1d⟩ := K1.out.cell
      clear b
      go_wp2_with fail
      go_ret2
      exact ⟨by rw [HT.out]; rfl, by repeat (first | with_reducible exact Below.refl _ _ | with_reducible exact HB.out | with_reducible apply Below.drew | with_reducible apply bdN | with_reducible refine Below.alloc ?_ (by first | exact Nat.le_refl _ | with_reducible exact HB.out.size | omega | (simp; done) | (simp; omega) | (have := HB.out.size; simp at *; omega)) _ | with_reducible refine Below.setCell ?_ (by first | exact Nat.le_refl _ | with_reducible exact HB.out.size | omega | (simp; done) | (simp; omega) | (have := HB.out.size; simp at *; omega)) _)⟩

set_option maxRecDepth 100000 in
set_option maxHeartbeats 4000000 in
theorem spec_vb (x y : Cd) (w : World) :
    Calls Try.prog 38 #[x.val, y.val] w fun e w' => e = .returned (.tuple #[.int .i64 (vbR x y).1, .bool (vbR x y).2]) ∧ Below w.heap.size w w' := by
  have HI := Lib.hid (fun w => l2_card x w)
  have HJ := Lib.hid (fun w => l6_weight y w)
  cases hx : x.ok
  · have HT := Lib.hid (show vbR x y = (0, false) by unfold vbR; rw [if_neg (by simp [hx])])
    rw [hx] at HI
    clear hx
    go_enter Try.func38, Try.ntmps38
    go_wp2_with fail
    refine ((HI.out _)).mono ?_
    rintro e w1 ⟨rfl, b⟩
    have Sw1 := Lib.hid b.size
    have HB := Lib.hid (chain0 (w := w) (by repeat (first | with_reducible exact Below.refl _ _ | with_reducible exact HB.out | with_reducible apply Below.drew | with_reducible apply bdN | with_reducible refine Below.alloc ?_ (by first | exact Nat.le_refl _ | with_reducible exact HB.out.size | omega | (simp; done) | (simp; omega) | (have := HB.out.size; simp at *; omega)) _ | with_reducible refine Below.setCell ?_ (by first | exact Nat.le_refl _ | with_reducible exact HB.out.size | omega | (simp; done) | (simp; omega) | (have := HB.out.size; simp at *; omega)) _)) b)
    have K0 : Hid (Box _ (w.heap.size) (x)) := Lib.hid (Box.below (by repeat (first | with_reducible exact K0.out | with_reducible apply Box.drewN | with_reducible apply Box.drew | (with_reducible refine Box.newAt ?_ ?_ <;> first | (simp; done) | rfl) | with_reducible apply Box.alloc)) b)
    have K1 : Hid (Box _ (w.heap.size + 1) (y)) := Lib.hid (Box.below (by repeat (first | with_reducible exact K1.out | with_reducible apply Box.drewN | with_reducible apply Box.drew | (with_reducible refine Box.newAt ?_ ?_ <;> first | (simp; done) | rfl) | with_reducible apply Box.alloc)) b)
    try clear k0a k0b k0c k0d k0z
    have k0z := K0.out.lt
    obtain ⟨k0a, k0b, k0c, k0d⟩ := K0.out.cell
    try clear k1a k1b k1c k1d k1z
    have k1z := K1.out.lt
    obtain ⟨k1a, k1b, k1c, k1d⟩ := K1.out.cell
    clear b
    go_wp2_with fail
    go_ret2
    exact ⟨by rw [HT.out]; rfl, by repeat (first | with_reducible exact Below.refl _ _ | with_reducible exact HB.out | with_reducible apply Below.drew | with_reducible apply bdN | with_reducible refine Below.alloc ?_ (by first | exact Nat.le_refl _ | with_reducible exact HB.out.size | omega | (simp; done) | (simp; omega) | (have := HB.out.size; simp at *; omega)) _ | with_reducible refine Below.setCell ?_ (by first | exact Nat.le_refl _ | with_reducible exact HB.out.size | omega | (simp; done) | (simp; omega) | (have := HB.out.size; simp at *; omega)) _)⟩
  · rw [hx] at HI
    cases hy : wtB y
    · have HT := Lib.hid (show vbR x y = (0, false) by unfold vbR; rw [if_neg (by simp [hy])])
      rw [hy] at HJ
      clear hx hy
      go_enter Try.func38, Try.ntmps38
      go_wp2_with fail
      refine ((HI.out _)).mono ?_
      rintro e w1 ⟨rfl, b⟩
      have Sw1 := Lib.hid b.size
      have HB := Lib.hid (chain0 (w := w) (by repeat (first | with_reducible exact Below.refl _ _ | with_reducible exact HB.out | with_reducible apply Below.drew | with_reducible apply bdN | with_reducible refine Below.alloc ?_ (by first | exact Nat.le_refl _ | with_reducible exact HB.out.size | omega | (simp; done) | (simp; omega) | (have := HB.out.size; simp at *; omega)) _ | with_reducible refine Below.setCell ?_ (by first | exact Nat.le_refl _ | with_reducible exact HB.out.size | omega | (simp; done) | (simp; omega) | (have := HB.out.size; simp at *; omega)) _)) b)
      have K0 : Hid (Box _ (w.heap.size) (x)) := Lib.hid (Box.below (by repeat (first | with_reducible exact K0.out | with_reducible apply Box.drewN | with_reducible apply Box.drew | (with_reducible refine Box.newAt ?_ ?_ <;> first | (simp; done) | rfl) | with_reducible apply Box.alloc)) b)
      have K1 : Hid (Box _ (w.heap.size + 1) (y)) := Lib.hid (Box.below (by repeat (first | with_reducible exact K1.out | with_reducible apply Box.drewN | with_reducible apply Box.drew | (with_reducible refine Box.newAt ?_ ?_ <;> first | (simp; done) | rfl) | with_reducible apply Box.alloc)) b)
      try clear k0a k0b k0c k0d k0z
      have k0z := K0.out.lt
      obtain ⟨k0a, k0b, k0c, k0d⟩ := K0.out.cell
      try clear k1a k1b k1c k1d k1z
      have k1z := K1.out.lt
      obtain ⟨k1a, k1b, k1c, k1d⟩ := K1.out.cell
      clear b
      go_wp2_with fail
      refine ((HJ.out _)).mono ?_
      rintro e w2 ⟨rfl, b⟩
      have Sw2 := Lib.hid b.size
      have HB := Lib.hid (chain0 (w := w) (by repeat (first | with_reducible exact Below.refl _ _ | with_reducible exact HB.out | with_reducible apply Below.drew | with_reducible apply bdN | with_reducible refine Below.alloc ?_ (by first | exact Nat.le_refl _ | with_reducible exact HB.out.size | omega | (simp; done) | (simp; omega) | (have := HB.out.size; simp at *; omega)) _ | with_reducible refine Below.setCell ?_ (by first | exact Nat.le_refl _ | with_reducible exact HB.out.size | omega | (simp; done) | (simp; omega) | (have := HB.out.size; simp at *; omega)) _)) b)
      have K0 : Hid (Box _ (w.heap.size) (x)) := Lib.hid (Box.below (by repeat (first | with_reducible exact K0.out | with_reducible apply Box.drewN | with_reducible apply Box.drew | (with_reducible refine Box.newAt ?_ ?_ <;> first | (simp; done) | rfl) | with_reducible apply Box.alloc)) b)
      have K1 : Hid (Box _ (w.heap.size + 1) (y)) := Lib.hid (Box.below (by repeat (first | with_reducible exact K1.out | with_reducible apply Box.drewN | with_reducible apply Box.drew | (with_reducible refine Box.newAt ?_ ?_ <;> first | (simp; done) | rfl) | with_reducible apply Box.alloc)) b)
      try clear k0a k0b k0c k0d k0z
      have k0z := K0.out.lt
      obtain ⟨k0a, k0b, k0c, k0d⟩ := K0.out.cell
      try clear k1a k1b k1c k1d k1z
      have k1z := K1.out.lt
      obtain ⟨k1a, k1b, k1c, k1d⟩ := K1.out.cell
      clear b
      go_wp2_with fail
      go_ret2
      exact ⟨by rw [HT.out]; rfl, by repeat (first | with_reducible exact Below.refl _ _ | with_reducible exact HB.out | with_reducible apply Below.drew | with_reducible apply bdN | with_reducible refine Below.alloc ?_ (by first | exact Nat.le_refl _ | with_reducible exact HB.out.size | omega | (simp; done) | (simp; omega) | (have := HB.out.size; simp at *; omega)) _ | with_reducible refine Below.setCell ?_ (by first | exact Nat.le_refl _ | with_reducible exact HB.out.size | omega | (simp; done) | (simp; omega) | (have := HB.out.size; simp at *; omega)) _)⟩
    · have HT := Lib.hid (show vbR x y = (val x y, true) by unfold vbR; rw [if_pos ⟨hx, hy⟩])
      have HV := Lib.hid (fun w => l6_value x y w hx (wtB_ok hy))
      rw [hy] at HJ
      clear hx hy
      go_enter Try.func38, Try.ntmps38
      go_wp2_with fail
      refine ((HI.out _)).mono ?_
      rintro e w1 ⟨rfl, b⟩
      have Sw1 := Lib.hid b.size
      have HB := Lib.hid (chain0 (w := w) (by repeat (first | with_reducible exact Below.refl _ _ | with_reducible exact HB.out | with_reducible apply Below.drew | with_reducible apply bdN | with_reducible refine Below.alloc ?_ (by first | exact Nat.le_refl _ | with_reducible exact HB.out.size | omega | (simp; done) | (simp; omega) | (have := HB.out.size; simp at *; omega)) _ | with_reducible refine Below.setCell ?_ (by first | exact Nat.le_refl _ | with_reducible exact HB.out.size | omega | (simp; done) | (simp; omega) | (have := HB.out.size; simp at *; omega)) _)) b)
      have K0 : Hid (Box _ (w.heap.size) (x)) := Lib.hid (Box.below (by repeat (first | with_reducible exact K0.out | with_reducible apply Box.drewN | with_reducible apply Box.drew | (with_reducible refine Box.newAt ?_ ?_ <;> first | (simp; done) | rfl) | with_reducible apply Box.alloc)) b)
      have K1 : Hid (Box _ (w.heap.size + 1) (y)) := Lib.hid (Box.below (by repeat (first | with_reducible exact K1.out | with_reducible apply Box.drewN | with_reducible apply Box.drew | (with_reducible refine Box.newAt ?_ ?_ <;> first | (simp; done) | rfl) | with_reducible apply Box.alloc)) b)
      try clear k0a k0b k0c k0d k0z
      have k0z := K0.out.lt
      obtain ⟨k0a, k0b, k0c, k0d⟩ := K0.out.cell
      try clear k1a k1b k1c k1d k1z
      have k1z := K1.out.lt
      obtain ⟨k1a, k1b, k1c, k1d⟩ := K1.out.cell
      clear b
      go_wp2_with fail
      refine ((HJ.out _)).mono ?_
      rintro e w2 ⟨rfl, b⟩
      have Sw2 := Lib.hid b.size
      have HB := Lib.hid (chain0 (w := w) (by repeat (first | with_reducible exact Below.refl _ _ | with_reducible exact HB.out | with_reducible apply Below.drew | with_reducible apply bdN | with_reducible refine Below.alloc ?_ (by first | exact Nat.le_refl _ | with_reducible exact HB.out.size | omega | (simp; done) | (simp; omega) | (have := HB.out.size; simp at *; omega)) _ | with_reducible refine Below.setCell ?_ (by first | exact Nat.le_refl _ | with_reducible exact HB.out.size | omega | (simp; done) | (simp; omega) | (have := HB.out.size; simp at *; omega)) _)) b)
      have K0 : Hid (Box _ (w.heap.size) (x)) := Lib.hid (Box.below (by repeat (first | with_reducible exact K0.out | with_reducible apply Box.drewN | with_reducible apply Box.drew | (with_reducible refine Box.newAt ?_ ?_ <;> first | (simp; done) | rfl) | with_reducible apply Box.alloc)) b)
      have K1 : Hid (Box _ (w.heap.size + 1) (y)) := Lib.hid (Box.below (by repeat (first | with_reducible exact K1.out | with_reducible apply Box.drewN | with_reducible apply Box.drew | (with_reducible refine Box.newAt ?_ ?_ <;> first | (simp; done) | rfl) | with_reducible apply Box.alloc)) b)
      try clear k0a k0b k0c k0d k0z
      have k0z := K0.out.lt
      obtain ⟨k0a, k0b, k0c, k0d⟩ := K0.out.cell
      try clear k1a k1b k1c k1d k1z
      have k1z := K1.out.lt
      obtain ⟨k1a, k1b, k1c, k1d⟩ := K1.out.cell
      clear b
      go_wp2_with fail
      refine ((HV.out _)).mono ?_
      rintro e w3 ⟨rfl, b⟩
      have Sw3 := Lib.hid b.size
      have HB := Lib.hid (chain0 (w := w) (by repeat (first | with_reducible exact Below.refl _ _ | with_reducible exact HB.out | with_reducible apply Below.drew | with_reducible apply bdN | with_reducible refine Below.alloc ?_ (by first | exact Nat.le_refl _ | with_reducible exact HB.out.size | omega | (simp; done) | (simp; omega) | (have := HB.out.size; simp at *; omega)) _ | with_reducible refine Below.setCell ?_ (by first | exact Nat.le_refl _ | with_reducible exact HB.out.size | omega | (simp; done) | (simp; omega) | (have := HB.out.size; simp at *; omega)) _)) b)
      have K0 : Hid (Box _ (w.heap.size) (x)) := Lib.hid (Box.below (by repeat (first | with_reducible exact K0.out | with_reducible apply Box.drewN | with_reducible apply Box.drew | (with_reducible refine Box.newAt ?_ ?_ <;> first | (simp; done) | rfl) | with_reducible apply Box.alloc)) b)
      have K1 : Hid (Box _ (w.heap.size + 1) (y)) := Lib.hid (Box.below (by repeat (first | with_reducible exact K1.out | with_reducible apply Box.drewN | with_reducible apply Box.drew | (with_reducible refine Box.newAt ?_ ?_ <;> first | (simp; done) | rfl) | with_reducible apply Box.alloc)) b)
      try clear k0a k0b k0c k0d k0z
      have k0z := K0.out.lt
      obtain ⟨k0a, k0b, k0c, k0d⟩ := K0.out.cell
      try clear k1a k1b k1c k1d k1z
      have k1z := K1.out.lt
      obtain ⟨k1a, k1b, k1c, k1d⟩ := K1.out.cell
      clear b
      go_wp2_with fail
      go_ret2
      exact ⟨by rw [HT.out]; rfl, by repeat (first | with_reducible exact Below.refl _ _ | with_reducible exact HB.out | with_reducible apply Below.drew | with_reducible apply bdN | with_reducible refine Below.alloc ?_ (by first | exact Nat.le_refl _ | with_reducible exact HB.out.size | omega | (simp; done) | (simp; omega) | (have := HB.out.size; simp at *; omega)) _ | with_reducible refine Below.setCell ?_ (by first | exact Nat.le_refl _ | with_reducible exact HB.out.size | omega | (simp; done) | (simp; omega) | (have := HB.out.size; simp at *; omega)) _)⟩
end Go.Proofs.Ytdhcdogmbclhaaa.planes
