/- Triangles: the program's and the model's. -/
import Derived.Test.YtdhcdogmbclhaaaYa
namespace Go.Proofs.Ytdhcdogmbclhaaa.planes
open Go.RowKit
open cards reg
set_option linter.unusedVariables false

section
variable {ops : Array Oper} {S : World → Prop} {K : Act → World → Prop}
theorem w_callE (d : Tmp) {i : Nat} {r : List (Bool × Nat)} {a : Act} {I : World → Prop} {f : FuncId} {args : Array Value} {o : Oper} (ho : ops[i]? = some o) (hd : o.dst = some d) (hg : Region.wanted o (yielded ops a.tmps) = true)
    (he : ∀ w, (execOp a.eval o).run Try.prog w = .ok (.enter f args) w) (h : ∀ w, I w → Calls Try.prog f args w (fun e w' => ∃ v, e = .returned v ∧ ∃ I' : World → Prop, (∀ w, I' w → S w) ∧ I' w' ∧ chainW Try.prog ops S K r (a.put (some d) v) I')) : chainW Try.prog ops S K ((false, i) :: r) a I :=
  ⟨o, ho, hg, fun w hI => by
    rw [he]
    exact (h w hI).mono fun e w' ⟨v, h1, h2⟩ => ⟨v, h1, hd ▸ h2⟩⟩
theorem w_valE (d : Tmp) {i : Nat} {r : List (Bool × Nat)} {a : Act} {I : World → Prop} {o : Oper} (ho : ops[i]? = some o) (hd : o.dst = some d) (hg : Region.wanted o (yielded ops a.tmps) = true)
    (h : ∀ w, I w → ∃ v w', (execOp a.eval o).run Try.prog w = .ok (.value v) w' ∧ ∃ I' : World → Prop, (∀ w, I' w → S w) ∧ I' w' ∧ chainW Try.prog ops S K r (a.put (some d) v) I') : chainW Try.prog ops S K ((false, i) :: r) a I :=
  ⟨o, ho, hg, fun w hI => by
    obtain ⟨v, w', h1, h2⟩ := h w hI
    rw [h1]
    exact hd ▸ h2⟩
end
theorem three_rd {w : World} {a b c : Cd} : Rd (w.alloc (.cells #[.int .i64 a.a, .int .i64 a.b, .int .i64 a.c, .int .i64 a.d, .int .i64 b.a, .int .i64 b.b, .int .i64 b.c, .int .i64 b.d, .int .i64 c.a, .int .i64 c.b, .int .i64 c.c, .int .i64 c.d] 33)) (some ⟨w.heap.size, 0, none⟩) (flat [a, b, c]) :=
  Rd.newAt rfl rfl

set_option maxRecDepth 100000 in
set_option maxHeartbeats 4000000 in
theorem tri_0 (a b c : Cd) (w : World) (h : ([a, b, c].all Cd.ok) = false) :
    Calls Try.prog 55 #[a.val, b.val, c.val] w fun e w' => e = .returned (.bool false) ∧ Below w.heap.size w w' := by
  have HA : Hid (([a, b, c].all Cd.ok) = false) := Lib.hid h
  have K0 : Hid (Box (((w.alloc a.obj).alloc b.obj).alloc c.obj) (w.heap.size) a) := Lib.hid (((Box.newAt rfl rfl).alloc _).alloc _)
  have K1 : Hid (Box (((w.alloc a.obj).alloc b.obj).alloc c.obj) (w.heap.size + 1) b) := Lib.hid ((Box.newAt (by simp) rfl).alloc _)
  have K2 : Hid (Box (((w.alloc a.obj).alloc b.obj).alloc c.obj) (w.heap.size + 1 + 1) c) := Lib.hid (Box.newAt (by simp) rfl)
  have HB : Hid (Below w.heap.size w (((w.alloc a.obj).alloc b.obj).alloc c.obj)) := Lib.hid ((((Below.refl _ _).alloc (Nat.le_refl _) _).alloc (by simp) _).alloc (by simp; omega) _)
  clear h
  go_enter Try.func55, Try.ntmps55
  go_upto_region 1 with fail
  generalize ((w.alloc a.obj).alloc b.obj).alloc c.obj = W at *
  refine region_WB [(true, 0), (true, 1), (true, 2), (false, 3), (false, 4), (true, 5), (true, 6), (true, 7), (true, 8), (true, 9), (true, 10), (true, 11), (true, 12), (true, 13), (true, 14), (true, 15), (true, 16), (true, 17), (true, 18), (true, 19), (true, 20), (true, 21), (true, 22), (true, 23), (true, 24), (true, 25), (true, 26), (true, 27)] (by kernel_rfl) rfl (by kernel_rfl) ?_
  refine w_card 7 (g := w.heap.size) (off := 0) rfl rfl (by kernel_rfl) _ rfl (by kernel_rfl) a (fun w' h => (K0.out.below h).cell) ?_
  refine w_card 8 (g := w.heap.size + 1) (off := 0) rfl rfl (by kernel_rfl) _ rfl (by kernel_rfl) b (fun w' h => (K1.out.below h).cell) ?_
  refine w_card 9 (g := w.heap.size + 1 + 1) (off := 0) rfl rfl (by kernel_rfl) _ rfl (by kernel_rfl) c (fun w' h => (K2.out.below h).cell) ?_
  refine w_valE 10 rfl rfl (by kernel_rfl) (fun w0 h0 => ⟨.slice (some ⟨w0.heap.size, 0, none⟩) 3 3, _, by kernel_rfl, fun w' => BI W w' ∧ Rd w' (some ⟨w0.heap.size, 0, none⟩) (flat [a, b, c]), fun _ h => h.1, ⟨h0.alloc (Below.size h0) _, three_rd⟩, ?_⟩)
  refine w_callE 11 rfl rfl (by kernel_rfl) (fun w => by kernel_rfl) (fun w1 h1 => (are_cards [a, b, c] _ 3 3 w1 rfl (by omega) h1.2).mono ?_)
  rintro e w2 ⟨rfl, b2⟩
  rw [HA.out]
  refine ⟨_, rfl, BI W, fun _ h => h, BI.next h1.1 b2, ?_⟩
  clear h1 b2
  refine w_pure 12 (v := .bool false) rfl rfl (by kernel_rfl) (fun w => by kernel_rfl) ?_
  refine w_skip 13 rfl rfl (by kernel_rfl) ?_
  refine w_skip 14 rfl rfl (by kernel_rfl) ?_
  refine w_skip 15 rfl rfl (by kernel_rfl) ?_
  refine w_pure 16 (v := .bool false) rfl rfl (by kernel_rfl) (fun w => by kernel_rfl) ?_
  refine w_pure 17 (v := .bool false) rfl rfl (by kernel_rfl) (fun w => by kernel_rfl) ?_
  refine w_skip 18 rfl rfl (by kernel_rfl) ?_
  refine w_skip 19 rfl rfl (by kernel_rfl) ?_
  refine w_skip 20 rfl rfl (by kernel_rfl) ?_
  refine w_pure 21 (v := .bool false) rfl rfl (by kernel_rfl) (fun w => by kernel_rfl) ?_
  refine w_pure 22 (v := .bool false) rfl rfl (by kernel_rfl) (fun w => by kernel_rfl) ?_
  refine w_skip 23 rfl rfl (by kernel_rfl) ?_
  refine w_skip 24 rfl rfl (by kernel_rfl) ?_
  refine w_skip 25 rfl rfl (by kernel_rfl) ?_
  refine w_pure 26 (v := .bool false) rfl rfl (by kernel_rfl) (fun w => by kernel_rfl) ?_
  refine w_pure 27 (v := .bool false) rfl rfl (by kernel_rfl) (fun w => by kernel_rfl) ?_
  refine w_skip 28 rfl rfl (by kernel_rfl) ?_
  refine w_skip 29 rfl rfl (by kernel_rfl) ?_
  refine w_skip 30 rfl rfl (by kernel_rfl) ?_
  refine w_skip 31 rfl rfl (by kernel_rfl) ?_
  refine w_skip 32 rfl rfl (by kernel_rfl) ?_
  refine w_pure 33 (v := .bool false) rfl rfl (by kernel_rfl) (fun w => by kernel_rfl) ?_
  refine w_pure 6 (v := .bool false) rfl rfl (by kernel_rfl) (fun w => by kernel_rfl) ?_
  intro w4 b4
  simp only [Act.put, List.setIfInBounds_toArray, List.set_cons_zero, List.set_cons_succ]
  have HB2 := Lib.hid (chain0 HB.out b4)
  clear b4 K0 K1 K2
  go_wp2_with fail
  go_ret
  exact ⟨rfl, HB2.out⟩

set_option maxRecDepth 100000 in
set_option maxHeartbeats 4000000 in
theorem tri_1 (a b c : Cd) (w : World) (ha : a.ok = true) (hb : b.ok = true) (hc : c.ok = true) (h0 : same a b = true) :
    Calls Try.prog 55 #[a.val, b.val, c.val] w fun e w' => e = .returned (.bool false) ∧ Below w.heap.size w w' := by
  have HA : Hid (([a, b, c].all Cd.ok) = true) := Lib.hid (by simp [ha, hb, hc])
  have H0 := Lib.hid h0
  have K0 : Hid (Box (((w.alloc a.obj).alloc b.obj).alloc c.obj) (w.heap.size) a) := Lib.hid (((Box.newAt rfl rfl).alloc _).alloc _)
  have K1 : Hid (Box (((w.alloc a.obj).alloc b.obj).alloc c.obj) (w.heap.size + 1) b) := Lib.hid ((Box.newAt (by simp) rfl).alloc _)
  have K2 : Hid (Box (((w.alloc a.obj).alloc b.obj).alloc c.obj) (w.heap.size + 1 + 1) c) := Lib.hid (Box.newAt (by simp) rfl)
  have HB : Hid (Below w.heap.size w (((w.alloc a.obj).alloc b.obj).alloc c.obj)) := Lib.hid ((((Below.refl _ _).alloc (Nat.le_refl _) _).alloc (by simp) _).alloc (by simp; omega) _)
  clear h0
  go_enter Try.func55, Try.ntmps55
  go_upto_region 1 with fail
  generalize ((w.alloc a.obj).alloc b.obj).alloc c.obj = W at *
  refine region_WB [(true, 0), (true, 1), (true, 2), (false, 3), (false, 4), (true, 5), (true, 6), (true, 7), (true, 8), (true, 9), (true, 10), (true, 11), (true, 12), (true, 13), (true, 14), (true, 15), (true, 16), (true, 17), (true, 18), (true, 19), (true, 20), (true, 21), (true, 22), (true, 23), (true, 24), (true, 25), (true, 26), (true, 27)] (by kernel_rfl) rfl (by kernel_rfl) ?_
  refine w_card 7 (g := w.heap.size) (off := 0) rfl rfl (by kernel_rfl) _ rfl (by kernel_rfl) a (fun w' h => (K0.out.below h).cell) ?_
  refine w_card 8 (g := w.heap.size + 1) (off := 0) rfl rfl (by kernel_rfl) _ rfl (by kernel_rfl) b (fun w' h => (K1.out.below h).cell) ?_
  refine w_card 9 (g := w.heap.size + 1 + 1) (off := 0) rfl rfl (by kernel_rfl) _ rfl (by kernel_rfl) c (fun w' h => (K2.out.below h).cell) ?_
  refine w_valE 10 rfl rfl (by kernel_rfl) (fun w0 h0 => ⟨.slice (some ⟨w0.heap.size, 0, none⟩) 3 3, _, by kernel_rfl, fun w' => BI W w' ∧ Rd w' (some ⟨w0.heap.size, 0, none⟩) (flat [a, b, c]), fun _ h => h.1, ⟨h0.alloc (Below.size h0) _, three_rd⟩, ?_⟩)
  refine w_callE 11 rfl rfl (by kernel_rfl) (fun w => by kernel_rfl) (fun w1 h1 => (are_cards [a, b, c] _ 3 3 w1 rfl (by omega) h1.2).mono ?_)
  rintro e w2 ⟨rfl, b2⟩
  rw [HA.out]
  refine ⟨_, rfl, BI W, fun _ h => h, BI.next h1.1 b2, ?_⟩
  clear h1 b2
  refine w_pure 12 (v := .bool true) rfl rfl (by kernel_rfl) (fun w => by kernel_rfl) ?_
  refine w_card 13 (g := w.heap.size) (off := 0) rfl rfl (by kernel_rfl) _ rfl (by kernel_rfl) a (fun w' h => (K0.out.below h).cell) ?_
  refine w_card 14 (g := w.heap.size + 1) (off := 0) rfl rfl (by kernel_rfl) _ rfl (by kernel_rfl) b (fun w' h => (K1.out.below h).cell) ?_
  refine w_pure 15 (v := .bool false) rfl rfl (by kernel_rfl) (fun w => by rw [exec_neqC ha hb rfl (by kernel_rfl) (by kernel_rfl) w, H0.out]; rfl) ?_
  refine w_pure 16 (v := .bool false) rfl rfl (by kernel_rfl) (fun w => by kernel_rfl) ?_
  refine w_pure 17 (v := .bool false) rfl rfl (by kernel_rfl) (fun w => by kernel_rfl) ?_
  refine w_skip 18 rfl rfl (by kernel_rfl) ?_
  refine w_skip 19 rfl rfl (by kernel_rfl) ?_
  refine w_skip 20 rfl rfl (by kernel_rfl) ?_
  refine w_pure 21 (v := .bool false) rfl rfl (by kernel_rfl) (fun w => by kernel_rfl) ?_
  refine w_pure 22 (v := .bool false) rfl rfl (by kernel_rfl) (fun w => by kernel_rfl) ?_
  refine w_skip 23 rfl rfl (by kernel_rfl) ?_
  refine w_skip 24 rfl rfl (by kernel_rfl) ?_
  refine w_skip 25 rfl rfl (by kernel_rfl) ?_
  refine w_pure 26 (v := .bool false) rfl rfl (by kernel_rfl) (fun w => by kernel_rfl) ?_
  refine w_pure 27 (v := .bool false) rfl rfl (by kernel_rfl) (fun w => by kernel_rfl) ?_
  refine w_skip 28 rfl rfl (by kernel_rfl) ?_
  refine w_skip 29 rfl rfl (by kernel_rfl) ?_
  refine w_skip 30 rfl rfl (by kernel_rfl) ?_
  refine w_skip 31 rfl rfl (by kernel_rfl) ?_
  refine w_skip 32 rfl rfl (by kernel_rfl) ?_
  refine w_pure 33 (v := .bool false) rfl rfl (by kernel_rfl) (fun w => by kernel_rfl) ?_
  refine w_pure 6 (v := .bool false) rfl rfl (by kernel_rfl) (fun w => by kernel_rfl) ?_
  intro w4 b4
  simp only [Act.put, List.setIfInBounds_toArray, List.set_cons_zero, List.set_cons_succ]
  have HB2 := Lib.hid (chain0 HB.out b4)
  clear b4 K0 K1 K2
  go_wp2_with fail
  go_ret
  exact ⟨rfl, HB2.out⟩

set_option maxRecDepth 100000 in
set_option maxHeartbeats 4000000 in
theorem tri_2 (a b c : Cd) (w : World) (ha : a.ok = true) (hb : b.ok = true) (hc : c.ok = true) (h0 : same a b = false) (h1 : same a c = true) :
    Calls Try.prog 55 #[a.val, b.val, c.val] w fun e w' => e = .returned (.bool false) ∧ Below w.heap.size w w' := by
  have HA : Hid (([a, b, c].all Cd.ok) = true) := Lib.hid (by simp [ha, hb, hc])
  have H0 := Lib.hid h0
  have H1 := Lib.hid h1
  have K0 : Hid (Box (((w.alloc a.obj).alloc b.obj).alloc c.obj) (w.heap.size) a) := Lib.hid (((Box.newAt rfl rfl).alloc _).alloc _)
  have K1 : Hid (Box (((w.alloc a.obj).alloc b.obj).alloc c.obj) (w.heap.size + 1) b) := Lib.hid ((Box.newAt (by simp) rfl).alloc _)
  have K2 : Hid (Box (((w.alloc a.obj).alloc b.obj).alloc c.obj) (w.heap.size + 1 + 1) c) := Lib.hid (Box.newAt (by simp) rfl)
  have HB : Hid (Below w.heap.size w (((w.alloc a.obj).alloc b.obj).alloc c.obj)) := Lib.hid ((((Below.refl _ _).alloc (Nat.le_refl _) _).alloc (by simp) _).alloc (by simp; omega) _)
  clear h0 h1
  go_enter Try.func55, Try.ntmps55
  go_upto_region 1 with fail
  generalize ((w.alloc a.obj).alloc b.obj).alloc c.obj = W at *
  refine region_WB [(true, 0), (true, 1), (true, 2), (false, 3), (false, 4), (true, 5), (true, 6), (true, 7), (true, 8), (true, 9), (true, 10), (true, 11), (true, 12), (true, 13), (true, 14), (true, 15), (true, 16), (true, 17), (true, 18), (true, 19), (true, 20), (true, 21), (true, 22), (true, 23), (true, 24), (true, 25), (true, 26), (true, 27)] (by kernel_rfl) rfl (by kernel_rfl) ?_
  refine w_card 7 (g := w.heap.size) (off := 0) rfl rfl (by kernel_rfl) _ rfl (by kernel_rfl) a (fun w' h => (K0.out.below h).cell) ?_
  refine w_card 8 (g := w.heap.size + 1) (off := 0) rfl rfl (by kernel_rfl) _ rfl (by kernel_rfl) b (fun w' h => (K1.out.below h).cell) ?_
  refine w_card 9 (g := w.heap.size + 1 + 1) (off := 0) rfl rfl (by kernel_rfl) _ rfl (by kernel_rfl) c (fun w' h => (K2.out.below h).cell) ?_
  refine w_valE 10 rfl rfl (by kernel_rfl) (fun w0 h0 => ⟨.slice (some ⟨w0.heap.size, 0, none⟩) 3 3, _, by kernel_rfl, fun w' => BI W w' ∧ Rd w' (some ⟨w0.heap.size, 0, none⟩) (flat [a, b, c]), fun _ h => h.1, ⟨h0.alloc (Below.size h0) _, three_rd⟩, ?_⟩)
  refine w_callE 11 rfl rfl (by kernel_rfl) (fun w => by kernel_rfl) (fun w1 h1 => (are_cards [a, b, c] _ 3 3 w1 rfl (by omega) h1.2).mono ?_)
  rintro e w2 ⟨rfl, b2⟩
  rw [HA.out]
  refine ⟨_, rfl, BI W, fun _ h => h, BI.next h1.1 b2, ?_⟩
  clear h1 b2
  refine w_pure 12 (v := .bool true) rfl rfl (by kernel_rfl) (fun w => by kernel_rfl) ?_
  refine w_card 13 (g := w.heap.size) (off := 0) rfl rfl (by kernel_rfl) _ rfl (by kernel_rfl) a (fun w' h => (K0.out.below h).cell) ?_
  refine w_card 14 (g := w.heap.size + 1) (off := 0) rfl rfl (by kernel_rfl) _ rfl (by kernel_rfl) b (fun w' h => (K1.out.below h).cell) ?_
  refine w_pure 15 (v := .bool true) rfl rfl (by kernel_rfl) (fun w => by rw [exec_neqC ha hb rfl (by kernel_rfl) (by kernel_rfl) w, H0.out]; rfl) ?_
  refine w_pure 16 (v := .bool true) rfl rfl (by kernel_rfl) (fun w => by kernel_rfl) ?_
  refine w_pure 17 (v := .bool true) rfl rfl (by kernel_rfl) (fun w => by kernel_rfl) ?_
  refine w_card 18 (g := w.heap.size) (off := 0) rfl rfl (by kernel_rfl) _ rfl (by kernel_rfl) a (fun w' h => (K0.out.below h).cell) ?_
  refine w_card 19 (g := w.heap.size + 1 + 1) (off := 0) rfl rfl (by kernel_rfl) _ rfl (by kernel_rfl) c (fun w' h => (K2.out.below h).cell) ?_
  refine w_pure 20 (v := .bool false) rfl rfl (by kernel_rfl) (fun w => by rw [exec_neqC ha hc rfl (by kernel_rfl) (by kernel_rfl) w, H1.out]; rfl) ?_
  refine w_pure 21 (v := .bool false) rfl rfl (by kernel_rfl) (fun w => by kernel_rfl) ?_
  refine w_pure 22 (v := .bool false) rfl rfl (by kernel_rfl) (fun w => by kernel_rfl) ?_
  refine w_skip 23 rfl rfl (by kernel_rfl) ?_
  refine w_skip 24 rfl rfl (by kernel_rfl) ?_
  refine w_skip 25 rfl rfl (by kernel_rfl) ?_
  refine w_pure 26 (v := .bool false) rfl rfl (by kernel_rfl) (fun w => by kernel_rfl) ?_
  refine w_pure 27 (v := .bool false) rfl rfl (by kernel_rfl) (fun w => by kernel_rfl) ?_
  refine w_skip 28 rfl rfl (by kernel_rfl) ?_
  refine w_skip 29 rfl rfl (by kernel_rfl) ?_
  refine w_skip 30 rfl rfl (by kernel_rfl) ?_
  refine w_skip 31 rfl rfl (by kernel_rfl) ?_
  refine w_skip 32 rfl rfl (by kernel_rfl) ?_
  refine w_pure 33 (v := .bool false) rfl rfl (by kernel_rfl) (fun w => by kernel_rfl) ?_
  refine w_pure 6 (v := .bool false) rfl rfl (by kernel_rfl) (fun w => by kernel_rfl) ?_
  intro w4 b4
  simp only [Act.put, List.setIfInBounds_toArray, List.set_cons_zero, List.set_cons_succ]
  have HB2 := Lib.hid (chain0 HB.out b4)
  clear b4 K0 K1 K2
  go_wp2_with fail
  go_ret
  exact ⟨rfl, HB2.out⟩

set_option maxRecDepth 100000 in
set_option maxHeartbeats 4000000 in
theorem tri_3 (a b c : Cd) (w : World) (ha : a.ok = true) (hb : b.ok = true) (hc : c.ok = true) (h0 : same a b = false) (h1 : same a c = false) (h2 : same b c = true) :
    Calls Try.prog 55 #[a.val, b.val, c.val] w fun e w' => e = .returned (.bool false) ∧ Below w.heap.size w w' := by
  have HA : Hid (([a, b, c].all Cd.ok) = true) := Lib.hid (by simp [ha, hb, hc])
  have H0 := Lib.hid h0
  have H1 := Lib.hid h1
  have H2 := Lib.hid h2
  have K0 : Hid (Box (((w.alloc a.obj).alloc b.obj).alloc c.obj) (w.heap.size) a) := Lib.hid (((Box.newAt rfl rfl).alloc _).alloc _)
  have K1 : Hid (Box (((w.alloc a.obj).alloc b.obj).alloc c.obj) (w.heap.size + 1) b) := Lib.hid ((Box.newAt (by simp) rfl).alloc _)
  have K2 : Hid (Box (((w.alloc a.obj).alloc b.obj).alloc c.obj) (w.heap.size + 1 + 1) c) := Lib.hid (Box.newAt (by simp) rfl)
  have HB : Hid (Below w.heap.size w (((w.alloc a.obj).alloc b.obj).alloc c.obj)) := Lib.hid ((((Below.refl _ _).alloc (Nat.le_refl _) _).alloc (by simp) _).alloc (by simp; omega) _)
  clear h0 h1 h2
  go_enter Try.func55, Try.ntmps55
  go_upto_region 1 with fail
  generalize ((w.alloc a.obj).alloc b.obj).alloc c.obj = W at *
  refine region_WB [(true, 0), (true, 1), (true, 2), (false, 3), (false, 4), (true, 5), (true, 6), (true, 7), (true, 8), (true, 9), (true, 10), (true, 11), (true, 12), (true, 13), (true, 14), (true, 15), (true, 16), (true, 17), (true, 18), (true, 19), (true, 20), (true, 21), (true, 22), (true, 23), (true, 24), (true, 25), (true, 26), (true, 27)] (by kernel_rfl) rfl (by kernel_rfl) ?_
  refine w_card 7 (g := w.heap.size) (off := 0) rfl rfl (by kernel_rfl) _ rfl (by kernel_rfl) a (fun w' h => (K0.out.below h).cell) ?_
  refine w_card 8 (g := w.heap.size + 1) (off := 0) rfl rfl (by kernel_rfl) _ rfl (by kernel_rfl) b (fun w' h => (K1.out.below h).cell) ?_
  refine w_card 9 (g := w.heap.size + 1 + 1) (off := 0) rfl rfl (by kernel_rfl) _ rfl (by kernel_rfl) c (fun w' h => (K2.out.below h).cell) ?_
  refine w_valE 10 rfl rfl (by kernel_rfl) (fun w0 h0 => ⟨.slice (some ⟨w0.heap.size, 0, none⟩) 3 3, _, by kernel_rfl, fun w' => BI W w' ∧ Rd w' (some ⟨w0.heap.size, 0, none⟩) (flat [a, b, c]), fun _ h => h.1, ⟨h0.alloc (Below.size h0) _, three_rd⟩, ?_⟩)
  refine w_callE 11 rfl rfl (by kernel_rfl) (fun w => by kernel_rfl) (fun w1 h1 => (are_cards [a, b, c] _ 3 3 w1 rfl (by omega) h1.2).mono ?_)
  rintro e w2 ⟨rfl, b2⟩
  rw [HA.out]
  refine ⟨_, rfl, BI W, fun _ h => h, BI.next h1.1 b2, ?_⟩
  clear h1 b2
  refine w_pure 12 (v := .bool true) rfl rfl (by kernel_rfl) (fun w => by kernel_rfl) ?_
  refine w_card 13 (g := w.heap.size) (off := 0) rfl rfl (by kernel_rfl) _ rfl (by kernel_rfl) a (fun w' h => (K0.out.below h).cell) ?_
  refine w_card 14 (g := w.heap.size + 1) (off := 0) rfl rfl (by kernel_rfl) _ rfl (by kernel_rfl) b (fun w' h => (K1.out.below h).cell) ?_
  refine w_pure 15 (v := .bool true) rfl rfl (by kernel_rfl) (fun w => by rw [exec_neqC ha hb rfl (by kernel_rfl) (by kernel_rfl) w, H0.out]; rfl) ?_
  refine w_pure 16 (v := .bool true) rfl rfl (by kernel_rfl) (fun w => by kernel_rfl) ?_
  refine w_pure 17 (v := .bool true) rfl rfl (by kernel_rfl) (fun w => by kernel_rfl) ?_
  refine w_card 18 (g := w.heap.size) (off := 0) rfl rfl (by kernel_rfl) _ rfl (by kernel_rfl) a (fun w' h => (K0.out.below h).cell) ?_
  refine w_card 19 (g := w.heap.size + 1 + 1) (off := 0) rfl rfl (by kernel_rfl) _ rfl (by kernel_rfl) c (fun w' h => (K2.out.below h).cell) ?_
  refine w_pure 20 (v := .bool true) rfl rfl (by kernel_rfl) (fun w => by rw [exec_neqC ha hc rfl (by kernel_rfl) (by kernel_rfl) w, H1.out]; rfl) ?_
  refine w_pure 21 (v := .bool true) rfl rfl (by kernel_rfl) (fun w => by kernel_rfl) ?_
  refine w_pure 22 (v := .bool true) rfl rfl (by kernel_rfl) (fun w => by kernel_rfl) ?_
  refine w_card 23 (g := w.heap.size + 1) (off := 0) rfl rfl (by kernel_rfl) _ rfl (by kernel_rfl) b (fun w' h => (K1.out.below h).cell) ?_
  refine w_card 24 (g := w.heap.size + 1 + 1) (off := 0) rfl rfl (by kernel_rfl) _ rfl (by kernel_rfl) c (fun w' h => (K2.out.below h).cell) ?_
  refine w_pure 25 (v := .bool false) rfl rfl (by kernel_rfl) (fun w => by rw [exec_neqC hb hc rfl (by kernel_rfl) (by kernel_rfl) w, H2.out]; rfl) ?_
  refine w_pure 26 (v := .bool false) rfl rfl (by kernel_rfl) (fun w => by kernel_rfl) ?_
  refine w_pure 27 (v := .bool false) rfl rfl (by kernel_rfl) (fun w => by kernel_rfl) ?_
  refine w_skip 28 rfl rfl (by kernel_rfl) ?_
  refine w_skip 29 rfl rfl (by kernel_rfl) ?_
  refine w_skip 30 rfl rfl (by kernel_rfl) ?_
  refine w_skip 31 rfl rfl (by kernel_rfl) ?_
  refine w_skip 32 rfl rfl (by kernel_rfl) ?_
  refine w_pure 33 (v := .bool false) rfl rfl (by kernel_rfl) (fun w => by kernel_rfl) ?_
  refine w_pure 6 (v := .bool false) rfl rfl (by kernel_rfl) (fun w => by kernel_rfl) ?_
  intro w4 b4
  simp only [Act.put, List.setIfInBounds_toArray, List.set_cons_zero, List.set_cons_succ]
  have HB2 := Lib.hid (chain0 HB.out b4)
  clear b4 K0 K1 K2
  go_wp2_with fail
  go_ret
  exact ⟨rfl, HB2.out⟩

set_option maxRecDepth 100000 in
set_option maxHeartbeats 4000000 in
theorem tri_4 (a b c : Cd) (w : World) (ha : a.ok = true) (hb : b.ok = true) (hc : c.ok = true) (h0 : same a b = false) (h1 : same a c = false) (h2 : same b c = false) (h3 : same c (third a b) = true) :
    Calls Try.prog 55 #[a.val, b.val, c.val] w fun e w' => e = .returned (.bool false) ∧ Below w.heap.size w w' := by
  have HA : Hid (([a, b, c].all Cd.ok) = true) := Lib.hid (by simp [ha, hb, hc])
  have H0 := Lib.hid h0
  have H1 := Lib.hid h1
  have H2 := Lib.hid h2
  have H3 := Lib.hid h3
  have K0 : Hid (Box (((w.alloc a.obj).alloc b.obj).alloc c.obj) (w.heap.size) a) := Lib.hid (((Box.newAt rfl rfl).alloc _).alloc _)
  have K1 : Hid (Box (((w.alloc a.obj).alloc b.obj).alloc c.obj) (w.heap.size + 1) b) := Lib.hid ((Box.newAt (by simp) rfl).alloc _)
  have K2 : Hid (Box (((w.alloc a.obj).alloc b.obj).alloc c.obj) (w.heap.size + 1 + 1) c) := Lib.hid (Box.newAt (by simp) rfl)
  have HB : Hid (Below w.heap.size w (((w.alloc a.obj).alloc b.obj).alloc c.obj)) := Lib.hid ((((Below.refl _ _).alloc (Nat.le_refl _) _).alloc (by simp) _).alloc (by simp; omega) _)
  clear h0 h1 h2 h3
  go_enter Try.func55, Try.ntmps55
  go_upto_region 1 with fail
  generalize ((w.alloc a.obj).alloc b.obj).alloc c.obj = W at *
  refine region_WB [(true, 0), (true, 1), (true, 2), (false, 3), (false, 4), (true, 5), (true, 6), (true, 7), (true, 8), (true, 9), (true, 10), (true, 11), (true, 12), (true, 13), (true, 14), (true, 15), (true, 16), (true, 17), (true, 18), (true, 19), (true, 20), (true, 21), (true, 22), (true, 23), (false, 24), (true, 25), (true, 26), (true, 27)] (by kernel_rfl) rfl (by kernel_rfl) ?_
  refine w_card 7 (g := w.heap.size) (off := 0) rfl rfl (by kernel_rfl) _ rfl (by kernel_rfl) a (fun w' h => (K0.out.below h).cell) ?_
  refine w_card 8 (g := w.heap.size + 1) (off := 0) rfl rfl (by kernel_rfl) _ rfl (by kernel_rfl) b (fun w' h => (K1.out.below h).cell) ?_
  refine w_card 9 (g := w.heap.size + 1 + 1) (off := 0) rfl rfl (by kernel_rfl) _ rfl (by kernel_rfl) c (fun w' h => (K2.out.below h).cell) ?_
  refine w_valE 10 rfl rfl (by kernel_rfl) (fun w0 h0 => ⟨.slice (some ⟨w0.heap.size, 0, none⟩) 3 3, _, by kernel_rfl, fun w' => BI W w' ∧ Rd w' (some ⟨w0.heap.size, 0, none⟩) (flat [a, b, c]), fun _ h => h.1, ⟨h0.alloc (Below.size h0) _, three_rd⟩, ?_⟩)
  refine w_callE 11 rfl rfl (by kernel_rfl) (fun w => by kernel_rfl) (fun w1 h1 => (are_cards [a, b, c] _ 3 3 w1 rfl (by omega) h1.2).mono ?_)
  rintro e w2 ⟨rfl, b2⟩
  rw [HA.out]
  refine ⟨_, rfl, BI W, fun _ h => h, BI.next h1.1 b2, ?_⟩
  clear h1 b2
  refine w_pure 12 (v := .bool true) rfl rfl (by kernel_rfl) (fun w => by kernel_rfl) ?_
  refine w_card 13 (g := w.heap.size) (off := 0) rfl rfl (by kernel_rfl) _ rfl (by kernel_rfl) a (fun w' h => (K0.out.below h).cell) ?_
  refine w_card 14 (g := w.heap.size + 1) (off := 0) rfl rfl (by kernel_rfl) _ rfl (by kernel_rfl) b (fun w' h => (K1.out.below h).cell) ?_
  refine w_pure 15 (v := .bool true) rfl rfl (by kernel_rfl) (fun w => by rw [exec_neqC ha hb rfl (by kernel_rfl) (by kernel_rfl) w, H0.out]; rfl) ?_
  refine w_pure 16 (v := .bool true) rfl rfl (by kernel_rfl) (fun w => by kernel_rfl) ?_
  refine w_pure 17 (v := .bool true) rfl rfl (by kernel_rfl) (fun w => by kernel_rfl) ?_
  refine w_card 18 (g := w.heap.size) (off := 0) rfl rfl (by kernel_rfl) _ rfl (by kernel_rfl) a (fun w' h => (K0.out.below h).cell) ?_
  refine w_card 19 (g := w.heap.size + 1 + 1) (off := 0) rfl rfl (by kernel_rfl) _ rfl (by kernel_rfl) c (fun w' h => (K2.out.below h).cell) ?_
  refine w_pure 20 (v := .bool true) rfl rfl (by kernel_rfl) (fun w => by rw [exec_neqC ha hc rfl (by kernel_rfl) (by kernel_rfl) w, H1.out]; rfl) ?_
  refine w_pure 21 (v := .bool true) rfl rfl (by kernel_rfl) (fun w => by kernel_rfl) ?_
  refine w_pure 22 (v := .bool true) rfl rfl (by kernel_rfl) (fun w => by kernel_rfl) ?_
  refine w_card 23 (g := w.heap.size + 1) (off := 0) rfl rfl (by kernel_rfl) _ rfl (by kernel_rfl) b (fun w' h => (K1.out.below h).cell) ?_
  refine w_card 24 (g := w.heap.size + 1 + 1) (off := 0) rfl rfl (by kernel_rfl) _ rfl (by kernel_rfl) c (fun w' h => (K2.out.below h).cell) ?_
  refine w_pure 25 (v := .bool true) rfl rfl (by kernel_rfl) (fun w => by rw [exec_neqC hb hc rfl (by kernel_rfl) (by kernel_rfl) w, H2.out]; rfl) ?_
  refine w_pure 26 (v := .bool true) rfl rfl (by kernel_rfl) (fun w => by kernel_rfl) ?_
  refine w_pure 27 (v := .bool true) rfl rfl (by kernel_rfl) (fun w => by kernel_rfl) ?_
  refine w_card 28 (g := w.heap.size + 1 + 1) (off := 0) rfl rfl (by kernel_rfl) _ rfl (by kernel_rfl) c (fun w' h => (K2.out.below h).cell) ?_
  refine w_card 29 (g := w.heap.size) (off := 0) rfl rfl (by kernel_rfl) _ rfl (by kernel_rfl) a (fun w' h => (K0.out.below h).cell) ?_
  refine w_card 30 (g := w.heap.size + 1) (off := 0) rfl rfl (by kernel_rfl) _ rfl (by kernel_rfl) b (fun w' h => (K1.out.below h).cell) ?_
  refine w_call 31 rfl rfl (by kernel_rfl) (fun w => by kernel_rfl) (fun w0 h0 => third_of a b w0 ha hb) ?_
  refine w_pure 32 (v := .bool false) rfl rfl (by kernel_rfl) (fun w => by rw [exec_neqC hc (third_ok a b) rfl (by kernel_rfl) (by kernel_rfl) w, H3.out]; rfl) ?_
  refine w_pure 33 (v := .bool false) rfl rfl (by kernel_rfl) (fun w => by kernel_rfl) ?_
  refine w_pure 6 (v := .bool false) rfl rfl (by kernel_rfl) (fun w => by kernel_rfl) ?_
  intro w4 b4
  simp only [Act.put, List.setIfInBounds_toArray, List.set_cons_zero, List.set_cons_succ]
  have HB2 := Lib.hid (chain0 HB.out b4)
  clear b4 K0 K1 K2
  go_wp2_with fail
  go_ret
  exact ⟨rfl, HB2.out⟩

set_option maxRecDepth 100000 in
set_option maxHeartbeats 4000000 in
theorem tri_5 (a b c : Cd) (w : World) (ha : a.ok = true) (hb : b.ok = true) (hc : c.ok = true) (h0 : same a b = false) (h1 : same a c = false) (h2 : same b c = false) (h3 : same c (third a b) = false) :
    Calls Try.prog 55 #[a.val, b.val, c.val] w fun e w' => e = .returned (.bool true) ∧ Below w.heap.size w w' := by
  have HA : Hid (([a, b, c].all Cd.ok) = true) := Lib.hid (by simp [ha, hb, hc])
  have H0 := Lib.hid h0
  have H1 := Lib.hid h1
  have H2 := Lib.hid h2
  have H3 := Lib.hid h3
  have K0 : Hid (Box (((w.alloc a.obj).alloc b.obj).alloc c.obj) (w.heap.size) a) := Lib.hid (((Box.newAt rfl rfl).alloc _).alloc _)
  have K1 : Hid (Box (((w.alloc a.obj).alloc b.obj).alloc c.obj) (w.heap.size + 1) b) := Lib.hid ((Box.newAt (by simp) rfl).alloc _)
  have K2 : Hid (Box (((w.alloc a.obj).alloc b.obj).alloc c.obj) (w.heap.size + 1 + 1) c) := Lib.hid (Box.newAt (by simp) rfl)
  have HB : Hid (Below w.heap.size w (((w.alloc a.obj).alloc b.obj).alloc c.obj)) := Lib.hid ((((Below.refl _ _).alloc (Nat.le_refl _) _).alloc (by simp) _).alloc (by simp; omega) _)
  clear h0 h1 h2 h3
  go_enter Try.func55, Try.ntmps55
  go_upto_region 1 with fail
  generalize ((w.alloc a.obj).alloc b.obj).alloc c.obj = W at *
  refine region_WB [(true, 0), (true, 1), (true, 2), (false, 3), (false, 4), (true, 5), (true, 6), (true, 7), (true, 8), (true, 9), (true, 10), (true, 11), (true, 12), (true, 13), (true, 14), (true, 15), (true, 16), (true, 17), (true, 18), (true, 19), (true, 20), (true, 21), (true, 22), (true, 23), (false, 24), (true, 25), (true, 26), (true, 27)] (by kernel_rfl) rfl (by kernel_rfl) ?_
  refine w_card 7 (g := w.heap.size) (off := 0) rfl rfl (by kernel_rfl) _ rfl (by kernel_rfl) a (fun w' h => (K0.out.below h).cell) ?_
  refine w_card 8 (g := w.heap.size + 1) (off := 0) rfl rfl (by kernel_rfl) _ rfl (by kernel_rfl) b (fun w' h => (K1.out.below h).cell) ?_
  refine w_card 9 (g := w.heap.size + 1 + 1) (off := 0) rfl rfl (by kernel_rfl) _ rfl (by kernel_rfl) c (fun w' h => (K2.out.below h).cell) ?_
  refine w_valE 10 rfl rfl (by kernel_rfl) (fun w0 h0 => ⟨.slice (some ⟨w0.heap.size, 0, none⟩) 3 3, _, by kernel_rfl, fun w' => BI W w' ∧ Rd w' (some ⟨w0.heap.size, 0, none⟩) (flat [a, b, c]), fun _ h => h.1, ⟨h0.alloc (Below.size h0) _, three_rd⟩, ?_⟩)
  refine w_callE 11 rfl rfl (by kernel_rfl) (fun w => by kernel_rfl) (fun w1 h1 => (are_cards [a, b, c] _ 3 3 w1 rfl (by omega) h1.2).mono ?_)
  rintro e w2 ⟨rfl, b2⟩
  rw [HA.out]
  refine ⟨_, rfl, BI W, fun _ h => h, BI.next h1.1 b2, ?_⟩
  clear h1 b2
  refine w_pure 12 (v := .bool true) rfl rfl (by kernel_rfl) (fun w => by kernel_rfl) ?_
  refine w_card 13 (g := w.heap.size) (off := 0) rfl rfl (by kernel_rfl) _ rfl (by kernel_rfl) a (fun w' h => (K0.out.below h).cell) ?_
  refine w_card 14 (g := w.heap.size + 1) (off := 0) rfl rfl (by kernel_rfl) _ rfl (by kernel_rfl) b (fun w' h => (K1.out.below h).cell) ?_
  refine w_pure 15 (v := .bool true) rfl rfl (by kernel_rfl) (fun w => by rw [exec_neqC ha hb rfl (by kernel_rfl) (by kernel_rfl) w, H0.out]; rfl) ?_
  refine w_pure 16 (v := .bool true) rfl rfl (by kernel_rfl) (fun w => by kernel_rfl) ?_
  refine w_pure 17 (v := .bool true) rfl rfl (by kernel_rfl) (fun w => by kernel_rfl) ?_
  refine w_card 18 (g := w.heap.size) (off := 0) rfl rfl (by kernel_rfl) _ rfl (by kernel_rfl) a (fun w' h => (K0.out.below h).cell) ?_
  refine w_card 19 (g := w.heap.size + 1 + 1) (off := 0) rfl rfl (by kernel_rfl) _ rfl (by kernel_rfl) c (fun w' h => (K2.out.below h).cell) ?_
  refine w_pure 20 (v := .bool true) rfl rfl (by kernel_rfl) (fun w => by rw [exec_neqC ha hc rfl (by kernel_rfl) (by kernel_rfl) w, H1.out]; rfl) ?_
  refine w_pure 21 (v := .bool true) rfl rfl (by kernel_rfl) (fun w => by kernel_rfl) ?_
  refine w_pure 22 (v := .bool true) rfl rfl (by kernel_rfl) (fun w => by kernel_rfl) ?_
  refine w_card 23 (g := w.heap.size + 1) (off := 0) rfl rfl (by kernel_rfl) _ rfl (by kernel_rfl) b (fun w' h => (K1.out.below h).cell) ?_
  refine w_card 24 (g := w.heap.size + 1 + 1) (off := 0) rfl rfl (by kernel_rfl) _ rfl (by kernel_rfl) c (fun w' h => (K2.out.below h).cell) ?_
  refine w_pure 25 (v := .bool true) rfl rfl (by kernel_rfl) (fun w => by rw [exec_neqC hb hc rfl (by kernel_rfl) (by kernel_rfl) w, H2.out]; rfl) ?_
  refine w_pure 26 (v := .bool true) rfl rfl (by kernel_rfl) (fun w => by kernel_rfl) ?_
  refine w_pure 27 (v := .bool true) rfl rfl (by kernel_rfl) (fun w => by kernel_rfl) ?_
  refine w_card 28 (g := w.heap.size + 1 + 1) (off := 0) rfl rfl (by kernel_rfl) _ rfl (by kernel_rfl) c (fun w' h => (K2.out.below h).cell) ?_
  refine w_card 29 (g := w.heap.size) (off := 0) rfl rfl (by kernel_rfl) _ rfl (by kernel_rfl) a (fun w' h => (K0.out.below h).cell) ?_
  refine w_card 30 (g := w.heap.size + 1) (off := 0) rfl rfl (by kernel_rfl) _ rfl (by kernel_rfl) b (fun w' h => (K1.out.below h).cell) ?_
  refine w_call 31 rfl rfl (by kernel_rfl) (fun w => by kernel_rfl) (fun w0 h0 => third_of a b w0 ha hb) ?_
  refine w_pure 32 (v := .bool true) rfl rfl (by kernel_rfl) (fun w => by rw [exec_neqC hc (third_ok a b) rfl (by kernel_rfl) (by kernel_rfl) w, H3.out]; rfl) ?_
  refine w_pure 33 (v := .bool true) rfl rfl (by kernel_rfl) (fun w => by kernel_rfl) ?_
  refine w_pure 6 (v := .bool true) rfl rfl (by kernel_rfl) (fun w => by kernel_rfl) ?_
  intro w4 b4
  simp only [Act.put, List.setIfInBounds_toArray, List.set_cons_zero, List.set_cons_succ]
  have HB2 := Lib.hid (chain0 HB.out b4)
  clear b4 K0 K1 K2
  go_wp2_with fail
  go_ret
  exact ⟨rfl, HB2.out⟩

theorem is_tri (a b c : Cd) (w : World) :
    Calls Try.prog 55 #[a.val, b.val, c.val] w fun e w' => e = .returned (.bool (triB a b c)) ∧ Below w.heap.size w w' := by
  cases h : [a, b, c].all Cd.ok
  · have e : triB a b c = false := by
      unfold triB
      have : (a.ok && b.ok && c.ok) = false := by rw [← h]; simp [Bool.and_assoc]
      rw [this]; rfl
    rw [e]; exact tri_0 a b c w h
  · have h' : a.ok = true ∧ b.ok = true ∧ c.ok = true := by simpa using h
    obtain ⟨ha, hb, hc⟩ := h'
    have hk : (a.ok && b.ok && c.ok) = true := by simp [ha, hb, hc]
    cases h0 : same a b
    · cases h1 : same a c
      · cases h2 : same b c
        · cases h3 : same c (third a b)
          · have e : triB a b c = true := by unfold triB; simp [hk, h0, h1, h2, h3]
            rw [e]; exact tri_5 a b c w ha hb hc h0 h1 h2 h3
          · have e : triB a b c = false := by unfold triB; simp [hk, h0, h1, h2, h3]
            rw [e]; exact tri_4 a b c w ha hb hc h0 h1 h2 h3
        · have e : triB a b c = false := by unfold triB; simp [hk, h0, h1, h2]
          rw [e]; exact tri_3 a b c w ha hb hc h0 h1 h2
      · have e : triB a b c = false := by unfold triB; simp [hk, h0, h1]
        rw [e]; exact tri_2 a b c w ha hb hc h0 h1
    · have e : triB a b c = false := by unfold triB; simp [hk, h0]
      rw [e]; exact tri_1 a b c w ha hb hc h0
end Go.Proofs.Ytdhcdogmbclhaaa.planes
