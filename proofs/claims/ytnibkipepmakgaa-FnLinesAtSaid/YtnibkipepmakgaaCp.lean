/- Comparing cards: the program's and the model's. -/
import Derived.Test.YtnibkipepmakgaaNm
namespace Go.Proofs.Ytnibkipepmakgaa.cards
open Go.RowKit
set_option linter.unusedVariables false

def cmpI (a b : Int) : Int := if a < b then -1 else if b < a then 1 else 0
set_option maxHeartbeats 1000000 in
theorem cmp_int (a b : Int) (w : World) :
    Calls Try.prog 53 #[.int .i64 a, .int .i64 b] w fun e w' => e = .returned (.int .i64 (cmpI a b)) ∧ w = w' := by
  by_cases h1 : a < b
  · have HT := Lib.hid (show -1 = cmpI a b by rw [cmpI, if_pos h1])
    go_enter Try.func53, Try.ntmps53
    go_wp2
    go_ret
    exact ⟨ret_int HT.out, rfl⟩
  · by_cases h2 : b < a
    · have HT := Lib.hid (show 1 = cmpI a b by rw [cmpI, if_neg h1, if_pos h2])
      go_enter Try.func53, Try.ntmps53
      go_wp2
      go_ret
      exact ⟨ret_int HT.out, rfl⟩
    · have HT := Lib.hid (show 0 = cmpI a b by rw [cmpI, if_neg h1, if_neg h2])
      go_enter Try.func53, Try.ntmps53
      go_wp2
      go_ret
      exact ⟨ret_int HT.out, rfl⟩
/-- Cards compared trait by trait. -/
def cmpC (x y : Cd) : Int := if cmpI x.a y.a ≠ 0 then cmpI x.a y.a else if cmpI x.b y.b ≠ 0 then cmpI x.b y.b else if cmpI x.c y.c ≠ 0 then cmpI x.c y.c else cmpI x.d y.d
theorem cmpI_zero {a b : Int} : cmpI a b = 0 ↔ a = b := by unfold cmpI; split <;> (try split) <;> omega
theorem cmpI_neg {a b : Int} : cmpI a b < 0 ↔ a < b := by unfold cmpI; split <;> (try split) <;> omega
/-- Of cards it is their numbers that are compared. -/
theorem cmp_num {x y : Cd} (hx : x.ok = true) (hy : y.ok = true) : (cmpC x y < 0 ↔ num x < num y) ∧ (cmpC x y = 0 ↔ num x = num y) := by
  obtain ⟨⟨x1, x2⟩, ⟨x3, x4⟩, ⟨x5, x6⟩, x7, x8⟩ := Cd.bd hx
  obtain ⟨⟨y1, y2⟩, ⟨y3, y4⟩, ⟨y5, y6⟩, y7, y8⟩ := Cd.bd hy
  unfold cmpC num
  by_cases ha : x.a = y.a
  · rw [if_neg (by rw [cmpI_zero.2 ha]; simp)]
    by_cases hb : x.b = y.b
    · rw [if_neg (by rw [cmpI_zero.2 hb]; simp)]
      by_cases hc : x.c = y.c
      · rw [if_neg (by rw [cmpI_zero.2 hc]; simp), cmpI_neg, cmpI_zero]; omega
      · rw [if_pos (by rw [ne_eq, cmpI_zero]; exact hc), cmpI_neg, cmpI_zero]; omega
    · rw [if_pos (by rw [ne_eq, cmpI_zero]; exact hb), cmpI_neg, cmpI_zero]; omega
  · rw [if_pos (by rw [ne_eq, cmpI_zero]; exact ha), cmpI_neg, cmpI_zero]; omega
theorem cmpC_bd (x y : Cd) : -1 ≤ cmpC x y ∧ cmpC x y ≤ 1 := by
  have h : ∀ a b, -1 ≤ cmpI a b ∧ cmpI a b ≤ 1 := fun a b => by unfold cmpI; split <;> (try split) <;> omega
  have := h x.a y.a; have := h x.b y.b; have := h x.c y.c; have := h x.d y.d
  unfold cmpC; split <;> (try split) <;> (try split) <;> omega

set_option maxRecDepth 100000 in
set_option maxHeartbeats 4000000 in
theorem slices_cmp (x y : Cd) (g1 g2 : Nat) (w : World) (h1 : Box w g1 x) (h2 : Box w g2 y) :
    Calls Try.prog 52 #[.slice (some ⟨g1, 0, none⟩) 4 4, .slice (some ⟨g2, 0, none⟩) 4 4] w fun e w' => e = .returned (.int .i64 (cmpC x y)) ∧ w = w' := by
  obtain ⟨a0, a1, a2, a3⟩ := h1.cell
  obtain ⟨b0, b1, b2, b3⟩ := h2.cell
  clear h1 h2
  obtain ⟨qa, ea⟩ : ∃ q, q = cmpI x.a y.a := ⟨_, rfl⟩
  obtain ⟨qb, eb⟩ : ∃ q, q = cmpI x.b y.b := ⟨_, rfl⟩
  obtain ⟨qc, ec⟩ : ∃ q, q = cmpI x.c y.c := ⟨_, rfl⟩
  obtain ⟨qd, ed⟩ : ∃ q, q = cmpI x.d y.d := ⟨_, rfl⟩
  have ka := Lib.hid (fun w => cmp_int x.a y.a w)
  have kb := Lib.hid (fun w => cmp_int x.b y.b w)
  have kc := Lib.hid (fun w => cmp_int x.c y.c w)
  have kd := Lib.hid (fun w => cmp_int x.d y.d w)
  obtain ⟨r, er, HC⟩ : ∃ r, r = cmpC x y ∧ Hid (r = if qa ≠ 0 then qa else if qb ≠ 0 then qb else if qc ≠ 0 then qc else qd) := ⟨_, rfl, by show cmpC x y = _; rw [ea, eb, ec, ed]; rfl⟩
  rw [← er]
  rw [← ea] at ka
  rw [← eb] at kb
  rw [← ec] at kc
  rw [← ed] at kd
  clear ea eb ec ed er
  go_enter Try.func52, Try.ntmps52
  go_wp2_with fail
  refine wp_loop_rounds 5 ?_
  rw [rounds_succ]
  go_wp2_with fail
  refine (ka.out _).mono ?_
  rintro e w' ⟨rfl, rfl⟩
  cases ha : (qa != 0)
  · go_wp2_with fail
    rw [rounds_succ]
    go_wp2_with fail
    refine (kb.out _).mono ?_
    rintro e w' ⟨rfl, rfl⟩
    cases hb : (qb != 0)
    · go_wp2_with fail
      rw [rounds_succ]
      go_wp2_with fail
      refine (kc.out _).mono ?_
      rintro e w' ⟨rfl, rfl⟩
      cases hc : (qc != 0)
      · go_wp2_with fail
        rw [rounds_succ]
        go_wp2_with fail
        refine (kd.out _).mono ?_
        rintro e w' ⟨rfl, rfl⟩
        cases hd : (qd != 0)
        · go_wp2_with fail
          rw [rounds_succ]
          go_wp2_with fail
          go_ret
          exact ⟨ret_int (by rw [HC.out]; simp_all), rfl⟩
        · go_wp2_with fail
          go_ret
          exact ⟨ret_int (by rw [HC.out]; simp_all), rfl⟩
      · go_wp2_with fail
        go_ret
        exact ⟨ret_int (by rw [HC.out]; simp_all), rfl⟩
    · go_wp2_with fail
      go_ret
      exact ⟨ret_int (by rw [HC.out]; simp_all), rfl⟩
  · go_wp2_with fail
    go_ret
    exact ⟨ret_int (by rw [HC.out]; simp_all), rfl⟩

set_option maxRecDepth 100000 in
set_option maxHeartbeats 4000000 in
theorem compare_cards (x y : Cd) (w : World) :
    Calls Try.prog 47 #[x.val, y.val] w fun e w' => e = .returned (.int .i64 (cmpC x y)) ∧ Below w.heap.size w w' := by
  go_enter Try.func47, Try.ntmps47
  go_wp2_with fail
  obtain ⟨w1, ew, b⟩ : ∃ wOPN : World, wOPN = ((w.alloc x.obj).alloc y.obj) ∧ Below (((w.alloc x.obj).alloc y.obj)).heap.size (((w.alloc x.obj).alloc y.obj)) wOPN := ⟨_, rfl, Below.refl _ _⟩
  rw [← ew]
  clear ew
  have Sw1 := Lib.hid b.size
  have HB := Lib.hid (chain0 (w := w) (by repeat (first | with_reducible exact Below.refl _ _ | with_reducible exact HB.out | with_reducible apply Below.drew | with_reducible apply bdN | with_reducible refine Below.alloc ?_ (by first | exact Nat.le_refl _ | with_reducible exact HB.out.size | omega | (simp; done) | (simp; omega) | (have := HB.out.size; simp at *; omega)) _ | with_reducible refine Below.setCell ?_ (by first | exact Nat.le_refl _ | with_reducible exact HB.out.size | omega | (simp; done) | (simp; omega) | (have := HB.out.size; simp at *; omega)) _)) b)
  have K0 : Hid (Box _ (w.heap.size) (x)) := Lib.hid (Box.below (by repeat (first | with_reducible exact K0.out | with_reducible apply Box.drewN | with_reducible apply Box.drew | (with_reducible refine Box.newAt ?_ ?_ <;> first | (simp; done) | rfl) | with_reducible apply Box.alloc)) b)
  have K1 : Hid (Box _ (w.heap.size + 1) (y)) := Lib.hid (Box.below (by repeat (first | with_reducible exact K1.out | with_reducible apply Box.drewN | with_reducible apply Box.drew | (with_reducible refine Box.newAt ?_ ?_ <;> first | (simp; done) | rfl) | with_reducible apply Box.alloc)) b)
  try clear k0a k0b k0c k0d k0z
  have k0z := K0.out.lt
  obtain ⟨k0a, k0b, k0c, k0d⟩ := K0.out.cell
  try clear k1a k1b k1c k1d k1z
  have k1z := K1.out.lt
  obtain ⟨k1a, k1b, k1c, k1d⟩ := K1.out.cell
  clear b
  have qk0a := fun d os => cell_regrown k0a d os
  have qk0b := fun d os => cell_regrown k0b d os
  have qk0c := fun d os => cell_regrown k0c d os
  have qk0d := fun d os => cell_regrown k0d d os
  have qk1a := fun d os => cell_regrown k1a d os
  have qk1b := fun d os => cell_regrown k1b d os
  have qk1c := fun d os => cell_regrown k1c d os
  have qk1d := fun d os => cell_regrown k1d d os
  refine wp_region_quiet_below (by kernel_rfl) (by kernel_rfl) ?_
  repeat (first | go_big_quiet_step ((go_at_call 52; exact Calls.regrown_of ((slices_cmp x y _ _ _ (K0.out.below (below_regrown _ _ _)) (K1.out.below (below_regrown _ _ _))).mono fun _ _ h => ⟨h.1, h.2 ▸ Below.refl _ _⟩))) | quiet_step ((go_at_call 52; exact Calls.regrown_of ((slices_cmp x y _ _ _ (K0.out.below (below_regrown _ _ _)) (K1.out.below (below_regrown _ _ _))).mono fun _ _ h => ⟨h.1, h.2 ▸ Below.refl _ _⟩))))
  refine wpQuiet_nil ?_
  intro w2 hw2
  have b : Below w1.heap.size w1 w2 := by obtain ⟨r, hr⟩ := hw2; rw [hr]; exact below_regrown _ _ _
  clear hw2 qk0a qk0b qk0c qk0d qk1a qk1b qk1c qk1d
  have Sw2 := Lib.hid b.size
  have HB := Lib.hid (chain0 (w := w) (by repeat (first | with_reducible exact Below.refl _ _ | with_reducible exact HB.out | with_reducible apply Below.drew | with_reducible apply bdN | with_reducible refine Below.alloc ?_ (by first | exact Nat.le_refl _ | with_reducible exact HB.out.size | omega | (simp; done) | (simp; omega) | (have := HB.out.size; simp at *; omega)) _ | with_reducible refine Below.setCell ?_ (by first | exact Nat.le_refl _ | with_reducible exact HB.out.size | omega | (simp; done) | (simp; omega) | (have := HB.out.size; simp at *; omega)) _)) b)
  have K0 : Hid (Box _ (w.heap.size) (x)) := Lib.hid (Box.below (by repeat (first | with_reducible exact K0.out | with_reducible apply Box.drewN | with_reducible apply Box.drew | (with_reducible refine Box.newAt ?_ ?_ <;> first | (simp; done) | rfl) | with_reducible apply Box.alloc)) b)
  have K1 : Hid (Box _ (w.heap.size + 1) (y)) := Lib.hid (Box.below (by repeat (first | with_reducible exact K1.out | with_reducible apply Box.drewN | with_reducible apply Box.drew | (with_reducible refine Box.newAt ?_ ?_ <;> first | (simp; done) | rfl) | with_reducible apply Box.alloc)) b)
  try clear k0a k0b k0c k0d k0z
  have k0z := K0.out.lt
  obtain ⟨k0a, k0b, k0c, k0d⟩ := K0.out.cell
  try clear k1a k1b k1c k1d k1z
  have k1z := K1.out.lt
  obtain ⟨k1a, k1b, k1c, k1d⟩ := K1.out.cell
  clear b
  go_wp2_with fail
  go_ret
  exact ⟨rfl, by repeat (first | with_reducible exact Below.refl _ _ | with_reducible exact HB.out | with_reducible apply Below.drew | with_reducible apply bdN | with_reducible refine Below.alloc ?_ (by first | exact Nat.le_refl _ | with_reducible exact HB.out.size | omega | (simp; done) | (simp; omega) | (have := HB.out.size; simp at *; omega)) _ | with_reducible refine Below.setCell ?_ (by first | exact Nat.le_refl _ | with_reducible exact HB.out.size | omega | (simp; done) | (simp; omega) | (have := HB.out.size; simp at *; omega)) _)⟩
end Go.Proofs.Ytnibkipepmakgaa.cards
