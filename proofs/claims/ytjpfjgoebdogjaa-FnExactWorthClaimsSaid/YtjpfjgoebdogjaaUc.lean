/- Three places that are a line or not; a line is taken: the program and the model alike. -/
import Derived.Test.YtjpfjgoebdogjaaUb
import Derived.Test.YtjpfjgoebdogjaaUa
import Derived.BigQuiet
namespace Go.Proofs.Ytjpfjgoebdogjaa.deal
open Go.RowKit
open cards
set_option linter.unusedVariables false

theorem isLn_rng {l : List Cd} {t : A3} (h : isLn l t) : 0 ≤ t.a ∧ t.a < t.b ∧ t.b < t.c ∧ t.c < l.length := by
  obtain ⟨i, j, m, x, y, z, h1, h2, hx, hy, hz, hl, rfl⟩ := h
  have := (List.getElem?_eq_some_iff.1 hz).1
  exact ⟨by simp only; omega, by simp only; omega, by simp only; omega, by simp only; omega⟩
theorem has3_ln {l : List Cd} (hd : l.Nodup) {t : A3} : has3 (lines l) t = true ↔ isLn l t := by rw [has3_iff, mem_lines hd]
theorem has3_out {l : List Cd} (hd : l.Nodup) {t : A3} (h : ¬ (0 ≤ t.a ∧ t.a < t.b ∧ t.b < t.c ∧ t.c < l.length)) : has3 (lines l) t = false := by
  cases hq : has3 (lines l) t
  · rfl
  · exact absurd (isLn_rng ((has3_ln hd).1 hq)) h
theorem has3_val {l : List Cd} (hd : l.Nodup) {i j m : Nat} {x y z : Cd} (h1 : i < j) (h2 : j < m) (hx : l[i]? = some x) (hy : l[j]? = some y) (hz : l[m]? = some z) : has3 (lines l) ⟨i, j, m⟩ = cards.line x y z := by
  rw [Bool.eq_iff_iff, has3_ln hd]
  constructor
  · rintro ⟨i', j', m', x', y', z', g1, g2, hx', hy', hz', hl, e⟩
    injection e with e1 e2 e3
    obtain rfl : i = i' := by omega
    obtain rfl : j = j' := by omega
    obtain rfl : m = m' := by omega
    rw [hx] at hx'; rw [hy] at hy'; rw [hz] at hz'
    injection hx' with hx'; injection hy' with hy'; injection hz' with hz'
    subst hx'; subst hy'; subst hz'
    exact hl
  · intro hl
    exact ⟨i, j, m, x, y, z, h1, h2, hx, hy, hz, hl, rfl⟩
theorem lines_wf {l : List Cd} (hd : l.Nodup) (hl : l.length ≤ 81) : ∀ x ∈ lines l, wf3 x := fun x hx => by
  have h := isLn_rng ((mem_lines hd).1 hx)
  exact ⟨wf_small (by omega) (by omega), wf_small (by omega) (by omega), wf_small (by omega) (by omega)⟩

set_option maxRecDepth 100000 in
set_option maxHeartbeats 4000000 in
theorem l4_line (s nx : Int) (l : List Cd) (t : A3) (p : Option Addr) (n cp : Nat) (w : World) (hn : l.length = n) (hl : n ≤ 81) (hr : Rd w p (flat l)) (hok : l.all Cd.ok = true) (hd : l.Nodup) (ht : wf3 t) :
    Calls Try.prog 75 #[dval s nx (.slice p n cp), t.val] w fun e w' => e = .returned (.bool (has3 (lines l) t)) ∧ Below w.heap.size w w' := by
  have HN := Lib.hid hn
  have HR := Lib.hid hr
  have HK := Lib.hid hok
  have HD := Lib.hid hd
  have HWt := Lib.hid ht
  have hwr : IntKind.i64.wrap ((n : Int) - 1) = (n : Int) - 1 := IntWalk.i64_in _ (by omega)
  clear hn hr hok hd ht
  by_cases hi0 : 0 ≤ t.a ∧ t.a ≤ (n : Int) - 1
  · skip
    by_cases hi1 : 0 ≤ t.b ∧ t.b ≤ (n : Int) - 1
    · skip
      by_cases ho1 : t.a < t.b
      · skip
        by_cases hi2 : 0 ≤ t.c ∧ t.c ≤ (n : Int) - 1
        · skip
          by_cases ho2 : t.b < t.c
          · skip
            have HC0 := Lib.hid (show ∀ w, Calls Try.prog 47 #[.int .i64 t.a, .int .i64 0, .int .i64 ((n : Int) - 1)] w fun e w' => e = .returned (.bool true) ∧ Below w.heap.size w w' from fun w => by have h := l1_in t.a 0 ((n : Int) - 1) w; rwa [decide_eq_true hi0] at h)
            have HC1 := Lib.hid (show ∀ w, Calls Try.prog 47 #[.int .i64 t.b, .int .i64 0, .int .i64 ((n : Int) - 1)] w fun e w' => e = .returned (.bool true) ∧ Below w.heap.size w w' from fun w => by have h := l1_in t.b 0 ((n : Int) - 1) w; rwa [decide_eq_true hi1] at h)
            have HC2 := Lib.hid (show ∀ w, Calls Try.prog 47 #[.int .i64 t.c, .int .i64 0, .int .i64 ((n : Int) - 1)] w fun e w' => e = .returned (.bool true) ∧ Below w.heap.size w w' from fun w => by have h := l1_in t.c 0 ((n : Int) - 1) w; rwa [decide_eq_true hi2] at h)
            go_enter Try.func75, Try.ntmps75
            go_wp2_with fail
            obtain ⟨w0, ew, b⟩ : ∃ wOPN : World, wOPN = ((w.alloc (Dv.mk 31 s nx (.slice p n cp)).obj).alloc t.obj) ∧ Below (((w.alloc (Dv.mk 31 s nx (.slice p n cp)).obj).alloc t.obj)).heap.size (((w.alloc (Dv.mk 31 s nx (.slice p n cp)).obj).alloc t.obj)) wOPN := ⟨_, rfl, Below.refl _ _⟩
            rw [← ew]
            clear ew
            have Sw0 := Lib.hid b.size
            have HB := Lib.hid (chain0 (w := w) (by repeat (first | with_reducible exact Below.refl _ _ | with_reducible exact HB.out | with_reducible apply Below.drew | with_reducible apply bdN | with_reducible refine Below.alloc ?_ (by first | exact Nat.le_refl _ | with_reducible exact HB.out.size | omega | (simp; done) | (simp; omega) | (have := HB.out.size; simp at *; omega)) _)) b)
            have HR := Lib.hid (Rd.below (by repeat (first | with_reducible exact HR.out | with_reducible apply Rd.drewN | with_reducible apply Rd.drew | with_reducible apply Rd.alloc)) b)
            have K0 : Hid (DBox _ (w.heap.size) (⟨31, s, nx, .slice p n cp⟩)) := Lib.hid (DBox.below (by repeat (first | with_reducible exact K0.out | with_reducible apply DBox.drewN | with_reducible apply DBox.drew | (with_reducible refine DBox.newAt ?_ ?_ <;> first | (simp; done) | rfl) | with_reducible apply DBox.alloc)) b)
            have K3 : Hid (TBox _ (w.heap.size + 1) (t)) := Lib.hid (TBox.below (by repeat (first | with_reducible exact K3.out | with_reducible apply TBox.drewN | with_reducible apply TBox.drew | (with_reducible refine TBox.newAt ?_ ?_ <;> first | (simp; done) | rfl) | with_reducible apply TBox.alloc)) b)
            try clear k0a k0b k0c k0d k0z
            have k0z := K0.out.lt
            obtain ⟨k0a, k0b, k0c, k0d⟩ := K0.out.cell
            try clear k3a k3b k3c k3d k3z
            have k3z := K3.out.lt
            obtain ⟨k3a, k3b, k3c, k3d⟩ := K3.out.cell
            clear b
            refine wp_loop_rounds 4 ?_
            rw [rounds_succ]
            go_wp2_with fail
            have qk0a := fun d os => cell_regrown k0a d os
            have qk0b := fun d os => cell_regrown k0b d os
            have qk0c := fun d os => cell_regrown k0c d os
            have qk3a := fun d os => cell_regrown k3a d os
            have qk3b := fun d os => cell_regrown k3b d os
            have qk3c := fun d os => cell_regrown k3c d os
            refine wp_region_quiet_below (by kernel_rfl) (by kernel_rfl) ?_
            repeat (first | go_big_quiet_step ((go_at_call 47; first | with_reducible exact Calls.regrown_of (HC0.out _))) | quiet_step ((go_at_call 47; first | with_reducible exact Calls.regrown_of (HC0.out _))))
            refine wpQuiet_nil ?_
            intro v1 hw2
            have b : Below w0.heap.size w0 v1 := by obtain ⟨r, hr⟩ := hw2; rw [hr]; exact below_regrown _ _ _
            clear hw2 qk0a qk0b qk0c qk3a qk3b qk3c
            have Sv1 := Lib.hid b.size
            have HB := Lib.hid (chain0 (w := w) (by repeat (first | with_reducible exact Below.refl _ _ | with_reducible exact HB.out | with_reducible apply Below.drew | with_reducible apply bdN | with_reducible refine Below.alloc ?_ (by first | exact Nat.le_refl _ | with_reducible exact HB.out.size | omega | (simp; done) | (simp; omega) | (have := HB.out.size; simp at *; omega)) _)) b)
            have HR := Lib.hid (Rd.below (by repeat (first | with_reducible exact HR.out | with_reducible apply Rd.drewN | with_reducible apply Rd.drew | with_reducible apply Rd.alloc)) b)
            have K0 : Hid (DBox _ (w.heap.size) (⟨31, s, nx, .slice p n cp⟩)) := Lib.hid (DBox.below (by repeat (first | with_reducible exact K0.out | with_reducible apply DBox.drewN | with_reducible apply DBox.drew | (with_reducible refine DBox.newAt ?_ ?_ <;> first | (simp; done) | rfl) | with_reducible apply DBox.alloc)) b)
            have K3 : Hid (TBox _ (w.heap.size + 1) (t)) := Lib.hid (TBox.below (by repeat (first | with_reducible exact K3.out | with_reducible apply TBox.drewN | with_reducible apply TBox.drew | (with_reducible refine TBox.newAt ?_ ?_ <;> first | (simp; done) | rfl) | with_reducible apply TBox.alloc)) b)
            try clear k0a k0b k0c k0d k0z
            have k0z := K0.out.lt
            obtain ⟨k0a, k0b, k0c, k0d⟩ := K0.out.cell
            try clear k3a k3b k3c k3d k3z
            have k3z := K3.out.lt
            obtain ⟨k3a, k3b, k3c, k3d⟩ := K3.out.cell
            clear b
            go_wp2_with fail
            rw [rounds_succ]
            go_wp2_with fail
            have qk0a := fun d os => cell_regrown k0a d os
            have qk0b := fun d os => cell_regrown k0b d os
            have qk0c := fun d os => cell_regrown k0c d os
            have qk3a := fun d os => cell_regrown k3a d os
            have qk3b := fun d os => cell_regrown k3b d os
            have qk3c := fun d os => cell_regrown k3c d os
            refine wp_region_quiet_below (by kernel_rfl) (by kernel_rfl) ?_
            repeat (first | go_big_quiet_step ((go_at_call 47; first | with_reducible exact Calls.regrown_of (HC0.out _) | with_reducible exact Calls.regrown_of (HC1.out _))) | quiet_step ((go_at_call 47; first | with_reducible exact Calls.regrown_of (HC0.out _) | with_reducible exact Calls.regrown_of (HC1.out _))))
            refine wpQuiet_nil ?_
            intro v2 hw2
            have b : Below v1.heap.size v1 v2 := by obtain ⟨r, hr⟩ := hw2; rw [hr]; exact below_regrown _ _ _
            clear hw2 qk0a qk0b qk0c qk3a qk3b qk3c
            have Sv2 := Lib.hid b.size
            have HB := Lib.hid (chain0 (w := w) (by repeat (first | with_reducible exact Below.refl _ _ | with_reducible exact HB.out | with_reducible apply Below.drew | with_reducible apply bdN | with_reducible refine Below.alloc ?_ (by first | exact Nat.le_refl _ | with_reducible exact HB.out.size | omega | (simp; done) | (simp; omega) | (have := HB.out.size; simp at *; omega)) _)) b)
            have HR := Lib.hid (Rd.below (by repeat (first | with_reducible exact HR.out | with_reducible apply Rd.drewN | with_reducible apply Rd.drew | with_reducible apply Rd.alloc)) b)
            have K0 : Hid (DBox _ (w.heap.size) (⟨31, s, nx, .slice p n cp⟩)) := Lib.hid (DBox.below (by repeat (first | with_reducible exact K0.out | with_reducible apply DBox.drewN | with_reducible apply DBox.drew | (with_reducible refine DBox.newAt ?_ ?_ <;> first | (simp; done) | rfl) | with_reducible apply DBox.alloc)) b)
            have K3 : Hid (TBox _ (w.heap.size + 1) (t)) := Lib.hid (TBox.below (by repeat (first | with_reducible exact K3.out | with_reducible apply TBox.drewN | with_reducible apply TBox.drew | (with_reducible refine TBox.newAt ?_ ?_ <;> first | (simp; done) | rfl) | with_reducible apply TBox.alloc)) b)
            try clear k0a k0b k0c k0d k0z
            have k0z := K0.out.lt
            obtain ⟨k0a, k0b, k0c, k0d⟩ := K0.out.cell
            try clear k3a k3b k3c k3d k3z
            have k3z := K3.out.lt
            obtain ⟨k3a, k3b, k3c, k3d⟩ := K3.out.cell
            clear b
            go_wp2_with fail
            rw [rounds_succ]
            go_wp2_with fail
            have qk0a := fun d os => cell_regrown k0a d os
            have qk0b := fun d os => cell_regrown k0b d os
            have qk0c := fun d os => cell_regrown k0c d os
            have qk3a := fun d os => cell_regrown k3a d os
            have qk3b := fun d os => cell_regrown k3b d os
            have qk3c := fun d os => cell_regrown k3c d os
            refine wp_region_quiet_below (by kernel_rfl) (by kernel_rfl) ?_
            repeat (first | go_big_quiet_step ((go_at_call 47; first | with_reducible exact Calls.regrown_of (HC0.out _) | with_reducible exact Calls.regrown_of (HC1.out _) | with_reducible exact Calls.regrown_of (HC2.out _))) | quiet_step ((go_at_call 47; first | with_reducible exact Calls.regrown_of (HC0.out _) | with_reducible exact Calls.regrown_of (HC1.out _) | with_reducible exact Calls.regrown_of (HC2.out _))))
            refine wpQuiet_nil ?_
            intro v3 hw2
            have b : Below v2.heap.size v2 v3 := by obtain ⟨r, hr⟩ := hw2; rw [hr]; exact below_regrown _ _ _
            clear hw2 qk0a qk0b qk0c qk3a qk3b qk3c
            have Sv3 := Lib.hid b.size
            have HB := Lib.hid (chain0 (w := w) (by repeat (first | with_reducible exact Below.refl _ _ | with_reducible exact HB.out | with_reducible apply Below.drew | with_reducible apply bdN | with_reducible refine Below.alloc ?_ (by first | exact Nat.le_refl _ | with_reducible exact HB.out.size | omega | (simp; done) | (simp; omega) | (have := HB.out.size; simp at *; omega)) _)) b)
            have HR := Lib.hid (Rd.below (by repeat (first | with_reducible exact HR.out | with_reducible apply Rd.drewN | with_reducible apply Rd.drew | with_reducible apply Rd.alloc)) b)
            have K0 : Hid (DBox _ (w.heap.size) (⟨31, s, nx, .slice p n cp⟩)) := Lib.hid (DBox.below (by repeat (first | with_reducible exact K0.out | with_reducible apply DBox.drewN | with_reducible apply DBox.drew | (with_reducible refine DBox.newAt ?_ ?_ <;> first | (simp; done) | rfl) | with_reducible apply DBox.alloc)) b)
            have K3 : Hid (TBox _ (w.heap.size + 1) (t)) := Lib.hid (TBox.below (by repeat (first | with_reducible exact K3.out | with_reducible apply TBox.drewN | with_reducible apply TBox.drew | (with_reducible refine TBox.newAt ?_ ?_ <;> first | (simp; done) | rfl) | with_reducible apply TBox.alloc)) b)
            try clear k0a k0b k0c k0d k0z
            have k0z := K0.out.lt
            obtain ⟨k0a, k0b, k0c, k0d⟩ := K0.out.cell
            try clear k3a k3b k3c k3d k3z
            have k3z := K3.out.lt
            obtain ⟨k3a, k3b, k3c, k3d⟩ := K3.out.cell
            clear b
            go_wp2_with fail
            rw [rounds_succ]
            go_wp2_with fail
            obtain ⟨i, hi⟩ : ∃ i : Nat, t.a = (i : Int) := ⟨t.a.toNat, by omega⟩
            obtain ⟨j, hj⟩ : ∃ j : Nat, t.b = (j : Int) := ⟨t.b.toNat, by omega⟩
            obtain ⟨m, hm⟩ : ∃ m : Nat, t.c = (m : Int) := ⟨t.c.toNat, by omega⟩
            obtain ⟨bk, ob, x, rfl, hb, hx, c0, c1, c2, c3⟩ := HR.out.card (k := i) (by rw [HN.out]; omega)
            obtain ⟨b2, o2, y, hbo, hb2, hy, d0, d1, d2, d3⟩ := HR.out.card (k := j) (by rw [HN.out]; omega)
            injection hbo with hbo
            injection hbo with e1 e2
            subst e1; subst e2
            obtain ⟨b3, o3, z, hbo, hb3, hz, e0, e1, e2, e3⟩ := HR.out.card (k := m) (by rw [HN.out]; omega)
            injection hbo with hbo
            injection hbo with g1 g2
            subst g1; subst g2
            have HX := Lib.hid (ok_at HK.out hx)
            have HY := Lib.hid (ok_at HK.out hy)
            have HZ := Lib.hid (ok_at HK.out hz)
            have HT := Lib.hid (show has3 (lines l) t = cards.line x y z by
              have h := has3_val HD.out (show i < j by omega) (show j < m by omega) hx hy hz
              rw [← hi, ← hj, ← hm] at h
              exact h)
            have q0 : (i : Int) < (n : Int) := by omega
            have q1 : (j : Int) < (n : Int) := by omega
            have q2 : (m : Int) < (n : Int) := by omega
            have q3 : (0 : Int) ≤ (i : Int) := by omega
            have q4 : (0 : Int) ≤ (j : Int) := by omega
            have q5 : (0 : Int) ≤ (m : Int) := by omega
            rw [hi] at k3a
            rw [hj] at k3b
            rw [hm] at k3c
            clear hx hy hz hi hj hm hi0 hi1 hi2 ho1 ho2
            have LL := Lib.hid (fun w => l2_line x y z w HX.out HY.out HZ.out)
            have qk3a := fun d os => cell_regrown k3a d os
            have qk3b := fun d os => cell_regrown k3b d os
            have qk3c := fun d os => cell_regrown k3c d os
            have qk0a := fun d os => cell_regrown k0a d os
            have qk0b := fun d os => cell_regrown k0b d os
            have qk0c := fun d os => cell_regrown k0c d os
            have qc0 := fun d os => cell_regrown c0 d os
            have qc1 := fun d os => cell_regrown c1 d os
            have qc2 := fun d os => cell_regrown c2 d os
            have qc3 := fun d os => cell_regrown c3 d os
            have qd0 := fun d os => cell_regrown d0 d os
            have qd1 := fun d os => cell_regrown d1 d os
            have qd2 := fun d os => cell_regrown d2 d os
            have qd3 := fun d os => cell_regrown d3 d os
            have qe0 := fun d os => cell_regrown e0 d os
            have qe1 := fun d os => cell_regrown e1 d os
            have qe2 := fun d os => cell_regrown e2 d os
            have qe3 := fun d os => cell_regrown e3 d os
            refine wp_region_quiet_below (by kernel_rfl) (by kernel_rfl) ?_
            repeat (first | go_big_quiet_step ((go_at_call 74; with_reducible exact Calls.regrown_of (LL.out _))) | quiet_step ((go_at_call 74; with_reducible exact Calls.regrown_of (LL.out _))))
            refine wpQuiet_nil ?_
            intro v4 hw2
            have b : Below v3.heap.size v3 v4 := by obtain ⟨r, hr⟩ := hw2; rw [hr]; exact below_regrown _ _ _
            clear hw2 qc0 qc1 qc2 qc3 qd0 qd1 qd2 qd3 qe0 qe1 qe2 qe3 qk3a qk3b qk3c qk0a qk0b qk0c
            have Sv4 := Lib.hid b.size
            have HB := Lib.hid (chain0 (w := w) (by repeat (first | with_reducible exact Below.refl _ _ | with_reducible exact HB.out | with_reducible apply Below.drew | with_reducible apply bdN | with_reducible refine Below.alloc ?_ (by first | exact Nat.le_refl _ | with_reducible exact HB.out.size | omega | (simp; done) | (simp; omega) | (have := HB.out.size; simp at *; omega)) _)) b)
            have HR := Lib.hid (Rd.below (by repeat (first | with_reducible exact HR.out | with_reducible apply Rd.drewN | with_reducible apply Rd.drew | with_reducible apply Rd.alloc)) b)
            have K3 : Hid (TBox _ (w.heap.size + 1) (t)) := Lib.hid (TBox.below (by repeat (first | with_reducible exact K3.out | with_reducible apply TBox.drewN | with_reducible apply TBox.drew | (with_reducible refine TBox.newAt ?_ ?_ <;> first | (simp; done) | rfl) | with_reducible apply TBox.alloc)) b)
            have K0 : Hid (DBox _ (w.heap.size) (⟨31, s, nx, .slice (some ⟨bk, ob, none⟩) n cp⟩)) := Lib.hid (DBox.below (by repeat (first | with_reducible exact K0.out | with_reducible apply DBox.drewN | with_reducible apply DBox.drew | (with_reducible refine DBox.newAt ?_ ?_ <;> first | (simp; done) | rfl) | with_reducible apply DBox.alloc)) b)
            try clear k3a k3b k3c k3d k3z
            have k3z := K3.out.lt
            obtain ⟨k3a, k3b, k3c, k3d⟩ := K3.out.cell
            try clear k0a k0b k0c k0d k0z
            have k0z := K0.out.lt
            obtain ⟨k0a, k0b, k0c, k0d⟩ := K0.out.cell
            clear b
            clear c0 c1 c2 c3 d0 d1 d2 d3 e0 e1 e2 e3
            go_wp2_with fail
            go_ret
            exact ⟨ret_bool HT.out.symm, HB.out⟩
          · skip
            have HC0 := Lib.hid (show ∀ w, Calls Try.prog 47 #[.int .i64 t.a, .int .i64 0, .int .i64 ((n : Int) - 1)] w fun e w' => e = .returned (.bool true) ∧ Below w.heap.size w w' from fun w => by have h := l1_in t.a 0 ((n : Int) - 1) w; rwa [decide_eq_true hi0] at h)
            have HC1 := Lib.hid (show ∀ w, Calls Try.prog 47 #[.int .i64 t.b, .int .i64 0, .int .i64 ((n : Int) - 1)] w fun e w' => e = .returned (.bool true) ∧ Below w.heap.size w w' from fun w => by have h := l1_in t.b 0 ((n : Int) - 1) w; rwa [decide_eq_true hi1] at h)
            have HC2 := Lib.hid (show ∀ w, Calls Try.prog 47 #[.int .i64 t.c, .int .i64 0, .int .i64 ((n : Int) - 1)] w fun e w' => e = .returned (.bool true) ∧ Below w.heap.size w w' from fun w => by have h := l1_in t.c 0 ((n : Int) - 1) w; rwa [decide_eq_true hi2] at h)
            have HT := Lib.hid (has3_out (t := t) HD.out (by rw [HN.out]; omega))
            go_enter Try.func75, Try.ntmps75
            go_wp2_with fail
            obtain ⟨w0, ew, b⟩ : ∃ wOPN : World, wOPN = ((w.alloc (Dv.mk 31 s nx (.slice p n cp)).obj).alloc t.obj) ∧ Below (((w.alloc (Dv.mk 31 s nx (.slice p n cp)).obj).alloc t.obj)).heap.size (((w.alloc (Dv.mk 31 s nx (.slice p n cp)).obj).alloc t.obj)) wOPN := ⟨_, rfl, Below.refl _ _⟩
            rw [← ew]
            clear ew
            have Sw0 := Lib.hid b.size
            have HB := Lib.hid (chain0 (w := w) (by repeat (first | with_reducible exact Below.refl _ _ | with_reducible exact HB.out | with_reducible apply Below.drew | with_reducible apply bdN | with_reducible refine Below.alloc ?_ (by first | exact Nat.le_refl _ | with_reducible exact HB.out.size | omega | (simp; done) | (simp; omega) | (have := HB.out.size; simp at *; omega)) _)) b)
            have HR := Lib.hid (Rd.below (by repeat (first | with_reducible exact HR.out | with_reducible apply Rd.drewN | with_reducible apply Rd.drew | with_reducible apply Rd.alloc)) b)
            have K0 : Hid (DBox _ (w.heap.size) (⟨31, s, nx, .slice p n cp⟩)) := Lib.hid (DBox.below (by repeat (first | with_reducible exact K0.out | with_reducible apply DBox.drewN | with_reducible apply DBox.drew | (with_reducible refine DBox.newAt ?_ ?_ <;> first | (simp; done) | rfl) | with_reducible apply DBox.alloc)) b)
            have K3 : Hid (TBox _ (w.heap.size + 1) (t)) := Lib.hid (TBox.below (by repeat (first | with_reducible exact K3.out | with_reducible apply TBox.drewN | with_reducible apply TBox.drew | (with_reducible refine TBox.newAt ?_ ?_ <;> first | (simp; done) | rfl) | with_reducible apply TBox.alloc)) b)
            try clear k0a k0b k0c k0d k0z
            have k0z := K0.out.lt
            obtain ⟨k0a, k0b, k0c, k0d⟩ := K0.out.cell
            try clear k3a k3b k3c k3d k3z
            have k3z := K3.out.lt
            obtain ⟨k3a, k3b, k3c, k3d⟩ := K3.out.cell
            clear b
            refine wp_loop_rounds 4 ?_
            rw [rounds_succ]
            go_wp2_with fail
            have qk0a := fun d os => cell_regrown k0a d os
            have qk0b := fun d os => cell_regrown k0b d os
            have qk0c := fun d os => cell_regrown k0c d os
            have qk3a := fun d os => cell_regrown k3a d os
            have qk3b := fun d os => cell_regrown k3b d os
            have qk3c := fun d os => cell_regrown k3c d os
            refine wp_region_quiet_below (by kernel_rfl) (by kernel_rfl) ?_
            repeat (first | go_big_quiet_step ((go_at_call 47; first | with_reducible exact Calls.regrown_of (HC0.out _))) | quiet_step ((go_at_call 47; first | with_reducible exact Calls.regrown_of (HC0.out _))))
            refine wpQuiet_nil ?_
            intro v1 hw2
            have b : Below w0.heap.size w0 v1 := by obtain ⟨r, hr⟩ := hw2; rw [hr]; exact below_regrown _ _ _
            clear hw2 qk0a qk0b qk0c qk3a qk3b qk3c
            have Sv1 := Lib.hid b.size
            have HB := Lib.hid (chain0 (w := w) (by repeat (first | with_reducible exact Below.refl _ _ | with_reducible exact HB.out | with_reducible apply Below.drew | with_reducible apply bdN | with_reducible refine Below.alloc ?_ (by first | exact Nat.le_refl _ | with_reducible exact HB.out.size | omega | (simp; done) | (simp; omega) | (have := HB.out.size; simp at *; omega)) _)) b)
            have HR := Lib.hid (Rd.below (by repeat (first | with_reducible exact HR.out | with_reducible apply Rd.drewN | with_reducible apply Rd.drew | with_reducible apply Rd.alloc)) b)
            have K0 : Hid (DBox _ (w.heap.size) (⟨31, s, nx, .slice p n cp⟩)) := Lib.hid (DBox.below (by repeat (first | with_reducible exact K0.out | with_reducible apply DBox.drewN | with_reducible apply DBox.drew | (with_reducible refine DBox.newAt ?_ ?_ <;> first | (simp; done) | rfl) | with_reducible apply DBox.alloc)) b)
            have K3 : Hid (TBox _ (w.heap.size + 1) (t)) := Lib.hid (TBox.below (by repeat (first | with_reducible exact K3.out | with_reducible apply TBox.drewN | with_reducible apply TBox.drew | (with_reducible refine TBox.newAt ?_ ?_ <;> first | (simp; done) | rfl) | with_reducible apply TBox.alloc)) b)
            try clear k0a k0b k0c k0d k0z
            have k0z := K0.out.lt
            obtain ⟨k0a, k0b, k0c, k0d⟩ := K0.out.cell
            try clear k3a k3b k3c k3d k3z
            have k3z := K3.out.lt
            obtain ⟨k3a, k3b, k3c, k3d⟩ := K3.out.cell
            clear b
            go_wp2_with fail
            rw [rounds_succ]
            go_wp2_with fail
            have qk0a := fun d os => cell_regrown k0a d os
            have qk0b := fun d os => cell_regrown k0b d os
            have qk0c := fun d os => cell_regrown k0c d os
            have qk3a := fun d os => cell_regrown k3a d os
            have qk3b := fun d os => cell_regrown k3b d os
            have qk3c := fun d os => cell_regrown k3c d os
            refine wp_region_quiet_below (by kernel_rfl) (by kernel_rfl) ?_
            repeat (first | go_big_quiet_step ((go_at_call 47; first | with_reducible exact Calls.regrown_of (HC0.out _) | with_reducible exact Calls.regrown_of (HC1.out _))) | quiet_step ((go_at_call 47; first | with_reducible exact Calls.regrown_of (HC0.out _) | with_reducible exact Calls.regrown_of (HC1.out _))))
            refine wpQuiet_nil ?_
            intro v2 hw2
            have b : Below v1.heap.size v1 v2 := by obtain ⟨r, hr⟩ := hw2; rw [hr]; exact below_regrown _ _ _
            clear hw2 qk0a qk0b qk0c qk3a qk3b qk3c
            have Sv2 := Lib.hid b.size
            have HB := Lib.hid (chain0 (w := w) (by repeat (first | with_reducible exact Below.refl _ _ | with_reducible exact HB.out | with_reducible apply Below.drew | with_reducible apply bdN | with_reducible refine Below.alloc ?_ (by first | exact Nat.le_refl _ | with_reducible exact HB.out.size | omega | (simp; done) | (simp; omega) | (have := HB.out.size; simp at *; omega)) _)) b)
            have HR := Lib.hid (Rd.below (by repeat (first | with_reducible exact HR.out | with_reducible apply Rd.drewN | with_reducible apply Rd.drew | with_reducible apply Rd.alloc)) b)
            have K0 : Hid (DBox _ (w.heap.size) (⟨31, s, nx, .slice p n cp⟩)) := Lib.hid (DBox.below (by repeat (first | with_reducible exact K0.out | with_reducible apply DBox.drewN | with_reducible apply DBox.drew | (with_reducible refine DBox.newAt ?_ ?_ <;> first | (simp; done) | rfl) | with_reducible apply DBox.alloc)) b)
            have K3 : Hid (TBox _ (w.heap.size + 1) (t)) := Lib.hid (TBox.below (by repeat (first | with_reducible exact K3.out | with_reducible apply TBox.drewN | with_reducible apply TBox.drew | (with_reducible refine TBox.newAt ?_ ?_ <;> first | (simp; done) | rfl) | with_reducible apply TBox.alloc)) b)
            try clear k0a k0b k0c k0d k0z
            have k0z := K0.out.lt
            obtain ⟨k0a, k0b, k0c, k0d⟩ := K0.out.cell
            try clear k3a k3b k3c k3d k3z
            have k3z := K3.out.lt
            obtain ⟨k3a, k3b, k3c, k3d⟩ := K3.out.cell
            clear b
            go_wp2_with fail
            rw [rounds_succ]
            go_wp2_with fail
            have qk0a := fun d os => cell_regrown k0a d os
            have qk0b := fun d os => cell_regrown k0b d os
            have qk0c := fun d os => cell_regrown k0c d os
            have qk3a := fun d os => cell_regrown k3a d os
            have qk3b := fun d os => cell_regrown k3b d os
            have qk3c := fun d os => cell_regrown k3c d os
            refine wp_region_quiet_below (by kernel_rfl) (by kernel_rfl) ?_
            repeat (first | go_big_quiet_step ((go_at_call 47; first | with_reducible exact Calls.regrown_of (HC0.out _) | with_reducible exact Calls.regrown_of (HC1.out _) | with_reducible exact Calls.regrown_of (HC2.out _))) | quiet_step ((go_at_call 47; first | with_reducible exact Calls.regrown_of (HC0.out _) | with_reducible exact Calls.regrown_of (HC1.out _) | with_reducible exact Calls.regrown_of (HC2.out _))))
            refine wpQuiet_nil ?_
            intro v3 hw2
            have b : Below v2.heap.size v2 v3 := by obtain ⟨r, hr⟩ := hw2; rw [hr]; exact below_regrown _ _ _
            clear hw2 qk0a qk0b qk0c qk3a qk3b qk3c
            have Sv3 := Lib.hid b.size
            have HB := Lib.hid (chain0 (w := w) (by repeat (first | with_reducible exact Below.refl _ _ | with_reducible exact HB.out | with_reducible apply Below.drew | with_reducible apply bdN | with_reducible refine Below.alloc ?_ (by first | exact Nat.le_refl _ | with_reducible exact HB.out.size | omega | (simp; done) | (simp; omega) | (have := HB.out.size; simp at *; omega)) _)) b)
            have HR := Lib.hid (Rd.below (by repeat (first | with_reducible exact HR.out | with_reducible apply Rd.drewN | with_reducible apply Rd.drew | with_reducible apply Rd.alloc)) b)
            have K0 : Hid (DBox _ (w.heap.size) (⟨31, s, nx, .slice p n cp⟩)) := Lib.hid (DBox.below (by repeat (first | with_reducible exact K0.out | with_reducible apply DBox.drewN | with_reducible apply DBox.drew | (with_reducible refine DBox.newAt ?_ ?_ <;> first | (simp; done) | rfl) | with_reducible apply DBox.alloc)) b)
            have K3 : Hid (TBox _ (w.heap.size + 1) (t)) := Lib.hid (TBox.below (by repeat (first | with_reducible exact K3.out | with_reducible apply TBox.drewN | with_reducible apply TBox.drew | (with_reducible refine TBox.newAt ?_ ?_ <;> first | (simp; done) | rfl) | with_reducible apply TBox.alloc)) b)
            try clear k0a k0b k0c k0d k0z
            have k0z := K0.out.lt
            obtain ⟨k0a, k0b, k0c, k0d⟩ := K0.out.cell
            try clear k3a k3b k3c k3d k3z
            have k3z := K3.out.lt
            obtain ⟨k3a, k3b, k3c, k3d⟩ := K3.out.cell
            clear b
            go_wp2_with fail
            go_ret
            exact ⟨ret_bool HT.out.symm, HB.out⟩
        · skip
          have HC0 := Lib.hid (show ∀ w, Calls Try.prog 47 #[.int .i64 t.a, .int .i64 0, .int .i64 ((n : Int) - 1)] w fun e w' => e = .returned (.bool true) ∧ Below w.heap.size w w' from fun w => by have h := l1_in t.a 0 ((n : Int) - 1) w; rwa [decide_eq_true hi0] at h)
          have HC1 := Lib.hid (show ∀ w, Calls Try.prog 47 #[.int .i64 t.b, .int .i64 0, .int .i64 ((n : Int) - 1)] w fun e w' => e = .returned (.bool true) ∧ Below w.heap.size w w' from fun w => by have h := l1_in t.b 0 ((n : Int) - 1) w; rwa [decide_eq_true hi1] at h)
          have HC2 := Lib.hid (show ∀ w, Calls Try.prog 47 #[.int .i64 t.c, .int .i64 0, .int .i64 ((n : Int) - 1)] w fun e w' => e = .returned (.bool false) ∧ Below w.heap.size w w' from fun w => by have h := l1_in t.c 0 ((n : Int) - 1) w; rwa [decide_eq_false hi2] at h)
          have HT := Lib.hid (has3_out (t := t) HD.out (by rw [HN.out]; omega))
          go_enter Try.func75, Try.ntmps75
          go_wp2_with fail
          obtain ⟨w0, ew, b⟩ : ∃ wOPN : World, wOPN = ((w.alloc (Dv.mk 31 s nx (.slice p n cp)).obj).alloc t.obj) ∧ Below (((w.alloc (Dv.mk 31 s nx (.slice p n cp)).obj).alloc t.obj)).heap.size (((w.alloc (Dv.mk 31 s nx (.slice p n cp)).obj).alloc t.obj)) wOPN := ⟨_, rfl, Below.refl _ _⟩
          rw [← ew]
          clear ew
          have Sw0 := Lib.hid b.size
          have HB := Lib.hid (chain0 (w := w) (by repeat (first | with_reducible exact Below.refl _ _ | with_reducible exact HB.out | with_reducible apply Below.drew | with_reducible apply bdN | with_reducible refine Below.alloc ?_ (by first | exact Nat.le_refl _ | with_reducible exact HB.out.size | omega | (simp; done) | (simp; omega) | (have := HB.out.size; simp at *; omega)) _)) b)
          have HR := Lib.hid (Rd.below (by repeat (first | with_reducible exact HR.out | with_reducible apply Rd.drewN | with_reducible apply Rd.drew | with_reducible apply Rd.alloc)) b)
          have K0 : Hid (DBox _ (w.heap.size) (⟨31, s, nx, .slice p n cp⟩)) := Lib.hid (DBox.below (by repeat (first | with_reducible exact K0.out | with_reducible apply DBox.drewN | with_reducible apply DBox.drew | (with_reducible refine DBox.newAt ?_ ?_ <;> first | (simp; done) | rfl) | with_reducible apply DBox.alloc)) b)
          have K3 : Hid (TBox _ (w.heap.size + 1) (t)) := Lib.hid (TBox.below (by repeat (first | with_reducible exact K3.out | with_reducible apply TBox.drewN | with_reducible apply TBox.drew | (with_reducible refine TBox.newAt ?_ ?_ <;> first | (simp; done) | rfl) | with_reducible apply TBox.alloc)) b)
          try clear k0a k0b k0c k0d k0z
          have k0z := K0.out.lt
          obtain ⟨k0a, k0b, k0c, k0d⟩ := K0.out.cell
          try clear k3a k3b k3c k3d k3z
          have k3z := K3.out.lt
          obtain ⟨k3a, k3b, k3c, k3d⟩ := K3.out.cell
          clear b
          refine wp_loop_rounds 4 ?_
          rw [rounds_succ]
          go_wp2_with fail
          have qk0a := fun d os => cell_regrown k0a d os
          have qk0b := fun d os => cell_regrown k0b d os
          have qk0c := fun d os => cell_regrown k0c d os
          have qk3a := fun d os => cell_regrown k3a d os
          have qk3b := fun d os => cell_regrown k3b d os
          have qk3c := fun d os => cell_regrown k3c d os
          refine wp_region_quiet_below (by kernel_rfl) (by kernel_rfl) ?_
          repeat (first | go_big_quiet_step ((go_at_call 47; first | with_reducible exact Calls.regrown_of (HC0.out _))) | quiet_step ((go_at_call 47; first | with_reducible exact Calls.regrown_of (HC0.out _))))
          refine wpQuiet_nil ?_
          intro v1 hw2
          have b : Below w0.heap.size w0 v1 := by obtain ⟨r, hr⟩ := hw2; rw [hr]; exact below_regrown _ _ _
          clear hw2 qk0a qk0b qk0c qk3a qk3b qk3c
          have Sv1 := Lib.hid b.size
          have HB := Lib.hid (chain0 (w := w) (by repeat (first | with_reducible exact Below.refl _ _ | with_reducible exact HB.out | with_reducible apply Below.drew | with_reducible apply bdN | with_reducible refine Below.alloc ?_ (by first | exact Nat.le_refl _ | with_reducible exact HB.out.size | omega | (simp; done) | (simp; omega) | (have := HB.out.size; simp at *; omega)) _)) b)
          have HR := Lib.hid (Rd.below (by repeat (first | with_reducible exact HR.out | with_reducible apply Rd.drewN | with_reducible apply Rd.drew | with_reducible apply Rd.alloc)) b)
          have K0 : Hid (DBox _ (w.heap.size) (⟨31, s, nx, .slice p n cp⟩)) := Lib.hid (DBox.below (by repeat (first | with_reducible exact K0.out | with_reducible apply DBox.drewN | with_reducible apply DBox.drew | (with_reducible refine DBox.newAt ?_ ?_ <;> first | (simp; done) | rfl) | with_reducible apply DBox.alloc)) b)
          have K3 : Hid (TBox _ (w.heap.size + 1) (t)) := Lib.hid (TBox.below (by repeat (first | with_reducible exact K3.out | with_reducible apply TBox.drewN | with_reducible apply TBox.drew | (with_reducible refine TBox.newAt ?_ ?_ <;> first | (simp; done) | rfl) | with_reducible apply TBox.alloc)) b)
          try clear k0a k0b k0c k0d k0z
          have k0z := K0.out.lt
          obtain ⟨k0a, k0b, k0c, k0d⟩ := K0.out.cell
          try clear k3a k3b k3c k3d k3z
          have k3z := K3.out.lt
          obtain ⟨k3a, k3b, k3c, k3d⟩ := K3.out.cell
          clear b
          go_wp2_with fail
          rw [rounds_succ]
          go_wp2_with fail
          have qk0a := fun d os => cell_regrown k0a d os
          have qk0b := fun d os => cell_regrown k0b d os
          have qk0c := fun d os => cell_regrown k0c d os
          have qk3a := fun d os => cell_regrown k3a d os
          have qk3b := fun d os => cell_regrown k3b d os
          have qk3c := fun d os => cell_regrown k3c d os
          refine wp_region_quiet_below (by kernel_rfl) (by kernel_rfl) ?_
          repeat (first | go_big_quiet_step ((go_at_call 47; first | with_reducible exact Calls.regrown_of (HC0.out _) | with_reducible exact Calls.regrown_of (HC1.out _))) | quiet_step ((go_at_call 47; first | with_reducible exact Calls.regrown_of (HC0.out _) | with_reducible exact Calls.regrown_of (HC1.out _))))
          refine wpQuiet_nil ?_
          intro v2 hw2
          have b : Below v1.heap.size v1 v2 := by obtain ⟨r, hr⟩ := hw2; rw [hr]; exact below_regrown _ _ _
          clear hw2 qk0a qk0b qk0c qk3a qk3b qk3c
          have Sv2 := Lib.hid b.size
          have HB := Lib.hid (chain0 (w := w) (by repeat (first | with_reducible exact Below.refl _ _ | with_reducible exact HB.out | with_reducible apply Below.drew | with_reducible apply bdN | with_reducible refine Below.alloc ?_ (by first | exact Nat.le_refl _ | with_reducible exact HB.out.size | omega | (simp; done) | (simp; omega) | (have := HB.out.size; simp at *; omega)) _)) b)
          have HR := Lib.hid (Rd.below (by repeat (first | with_reducible exact HR.out | with_reducible apply Rd.drewN | with_reducible apply Rd.drew | with_reducible apply Rd.alloc)) b)
          have K0 : Hid (DBox _ (w.heap.size) (⟨31, s, nx, .slice p n cp⟩)) := Lib.hid (DBox.below (by repeat (first | with_reducible exact K0.out | with_reducible apply DBox.drewN | with_reducible apply DBox.drew | (with_reducible refine DBox.newAt ?_ ?_ <;> first | (simp; done) | rfl) | with_reducible apply DBox.alloc)) b)
          have K3 : Hid (TBox _ (w.heap.size + 1) (t)) := Lib.hid (TBox.below (by repeat (first | with_reducible exact K3.out | with_reducible apply TBox.drewN | with_reducible apply TBox.drew | (with_reducible refine TBox.newAt ?_ ?_ <;> first | (simp; done) | rfl) | with_reducible apply TBox.alloc)) b)
          try clear k0a k0b k0c k0d k0z
          have k0z := K0.out.lt
          obtain ⟨k0a, k0b, k0c, k0d⟩ := K0.out.cell
          try clear k3a k3b k3c k3d k3z
          have k3z := K3.out.lt
          obtain ⟨k3a, k3b, k3c, k3d⟩ := K3.out.cell
          clear b
          go_wp2_with fail
          rw [rounds_succ]
          go_wp2_with fail
          have qk0a := fun d os => cell_regrown k0a d os
          have qk0b := fun d os => cell_regrown k0b d os
          have qk0c := fun d os => cell_regrown k0c d os
          have qk3a := fun d os => cell_regrown k3a d os
          have qk3b := fun d os => cell_regrown k3b d os
          have qk3c := fun d os => cell_regrown k3c d os
          refine wp_region_quiet_below (by kernel_rfl) (by kernel_rfl) ?_
          repeat (first | go_big_quiet_step ((go_at_call 47; first | with_reducible exact Calls.regrown_of (HC0.out _) | with_reducible exact Calls.regrown_of (HC1.out _) | with_reducible exact Calls.regrown_of (HC2.out _))) | quiet_step ((go_at_call 47; first | with_reducible exact Calls.regrown_of (HC0.out _) | with_reducible exact Calls.regrown_of (HC1.out _) | with_reducible exact Calls.regrown_of (HC2.out _))))
          refine wpQuiet_nil ?_
          intro v3 hw2
          have b : Below v2.heap.size v2 v3 := by obtain ⟨r, hr⟩ := hw2; rw [hr]; exact below_regrown _ _ _
          clear hw2 qk0a qk0b qk0c qk3a qk3b qk3c
          have Sv3 := Lib.hid b.size
          have HB := Lib.hid (chain0 (w := w) (by repeat (first | with_reducible exact Below.refl _ _ | with_reducible exact HB.out | with_reducible apply Below.drew | with_reducible apply bdN | with_reducible refine Below.alloc ?_ (by first | exact Nat.le_refl _ | with_reducible exact HB.out.size | omega | (simp; done) | (simp; omega) | (have := HB.out.size; simp at *; omega)) _)) b)
          have HR := Lib.hid (Rd.below (by repeat (first | with_reducible exact HR.out | with_reducible apply Rd.drewN | with_reducible apply Rd.drew | with_reducible apply Rd.alloc)) b)
          have K0 : Hid (DBox _ (w.heap.size) (⟨31, s, nx, .slice p n cp⟩)) := Lib.hid (DBox.below (by repeat (first | with_reducible exact K0.out | with_reducible apply DBox.drewN | with_reducible apply DBox.drew | (with_reducible refine DBox.newAt ?_ ?_ <;> first | (simp; done) | rfl) | with_reducible apply DBox.alloc)) b)
          have K3 : Hid (TBox _ (w.heap.size + 1) (t)) := Lib.hid (TBox.below (by repeat (first | with_reducible exact K3.out | with_reducible apply TBox.drewN | with_reducible apply TBox.drew | (with_reducible refine TBox.newAt ?_ ?_ <;> first | (simp; done) | rfl) | with_reducible apply TBox.alloc)) b)
          try clear k0a k0b k0c k0d k0z
          have k0z := K0.out.lt
          obtain ⟨k0a, k0b, k0c, k0d⟩ := K0.out.cell
          try clear k3a k3b k3c k3d k3z
          have k3z := K3.out.lt
          obtain ⟨k3a, k3b, k3c, k3d⟩ := K3.out.cell
          clear b
          go_wp2_with fail
          go_ret
          exact ⟨ret_bool HT.out.symm, HB.out⟩
      · skip
        have HC0 := Lib.hid (show ∀ w, Calls Try.prog 47 #[.int .i64 t.a, .int .i64 0, .int .i64 ((n : Int) - 1)] w fun e w' => e = .returned (.bool true) ∧ Below w.heap.size w w' from fun w => by have h := l1_in t.a 0 ((n : Int) - 1) w; rwa [decide_eq_true hi0] at h)
        have HC1 := Lib.hid (show ∀ w, Calls Try.prog 47 #[.int .i64 t.b, .int .i64 0, .int .i64 ((n : Int) - 1)] w fun e w' => e = .returned (.bool true) ∧ Below w.heap.size w w' from fun w => by have h := l1_in t.b 0 ((n : Int) - 1) w; rwa [decide_eq_true hi1] at h)
        have HT := Lib.hid (has3_out (t := t) HD.out (by rw [HN.out]; omega))
        go_enter Try.func75, Try.ntmps75
        go_wp2_with fail
        obtain ⟨w0, ew, b⟩ : ∃ wOPN : World, wOPN = ((w.alloc (Dv.mk 31 s nx (.slice p n cp)).obj).alloc t.obj) ∧ Below (((w.alloc (Dv.mk 31 s nx (.slice p n cp)).obj).alloc t.obj)).heap.size (((w.alloc (Dv.mk 31 s nx (.slice p n cp)).obj).alloc t.obj)) wOPN := ⟨_, rfl, Below.refl _ _⟩
        rw [← ew]
        clear ew
        have Sw0 := Lib.hid b.size
        have HB := Lib.hid (chain0 (w := w) (by repeat (first | with_reducible exact Below.refl _ _ | with_reducible exact HB.out | with_reducible apply Below.drew | with_reducible apply bdN | with_reducible refine Below.alloc ?_ (by first | exact Nat.le_refl _ | with_reducible exact HB.out.size | omega | (simp; done) | (simp; omega) | (have := HB.out.size; simp at *; omega)) _)) b)
        have HR := Lib.hid (Rd.below (by repeat (first | with_reducible exact HR.out | with_reducible apply Rd.drewN | with_reducible apply Rd.drew | with_reducible apply Rd.alloc)) b)
        have K0 : Hid (DBox _ (w.heap.size) (⟨31, s, nx, .slice p n cp⟩)) := Lib.hid (DBox.below (by repeat (first | with_reducible exact K0.out | with_reducible apply DBox.drewN | with_reducible apply DBox.drew | (with_reducible refine DBox.newAt ?_ ?_ <;> first | (simp; done) | rfl) | with_reducible apply DBox.alloc)) b)
        have K3 : Hid (TBox _ (w.heap.size + 1) (t)) := Lib.hid (TBox.below (by repeat (first | with_reducible exact K3.out | with_reducible apply TBox.drewN | with_reducible apply TBox.drew | (with_reducible refine TBox.newAt ?_ ?_ <;> first | (simp; done) | rfl) | with_reducible apply TBox.alloc)) b)
        try clear k0a k0b k0c k0d k0z
        have k0z := K0.out.lt
        obtain ⟨k0a, k0b, k0c, k0d⟩ := K0.out.cell
        try clear k3a k3b k3c k3d k3z
        have k3z := K3.out.lt
        obtain ⟨k3a, k3b, k3c, k3d⟩ := K3.out.cell
        clear b
        refine wp_loop_rounds 4 ?_
        rw [rounds_succ]
        go_wp2_with fail
        have qk0a := fun d os => cell_regrown k0a d os
        have qk0b := fun d os => cell_regrown k0b d os
        have qk0c := fun d os => cell_regrown k0c d os
        have qk3a := fun d os => cell_regrown k3a d os
        have qk3b := fun d os => cell_regrown k3b d os
        have qk3c := fun d os => cell_regrown k3c d os
        refine wp_region_quiet_below (by kernel_rfl) (by kernel_rfl) ?_
        repeat (first | go_big_quiet_step ((go_at_call 47; first | with_reducible exact Calls.regrown_of (HC0.out _))) | quiet_step ((go_at_call 47; first | with_reducible exact Calls.regrown_of (HC0.out _))))
        refine wpQuiet_nil ?_
        intro v1 hw2
        have b : Below w0.heap.size w0 v1 := by obtain ⟨r, hr⟩ := hw2; rw [hr]; exact below_regrown _ _ _
        clear hw2 qk0a qk0b qk0c qk3a qk3b qk3c
        have Sv1 := Lib.hid b.size
        have HB := Lib.hid (chain0 (w := w) (by repeat (first | with_reducible exact Below.refl _ _ | with_reducible exact HB.out | with_reducible apply Below.drew | with_reducible apply bdN | with_reducible refine Below.alloc ?_ (by first | exact Nat.le_refl _ | with_reducible exact HB.out.size | omega | (simp; done) | (simp; omega) | (have := HB.out.size; simp at *; omega)) _)) b)
        have HR := Lib.hid (Rd.below (by repeat (first | with_reducible exact HR.out | with_reducible apply Rd.drewN | with_reducible apply Rd.drew | with_reducible apply Rd.alloc)) b)
        have K0 : Hid (DBox _ (w.heap.size) (⟨31, s, nx, .slice p n cp⟩)) := Lib.hid (DBox.below (by repeat (first | with_reducible exact K0.out | with_reducible apply DBox.drewN | with_reducible apply DBox.drew | (with_reducible refine DBox.newAt ?_ ?_ <;> first | (simp; done) | rfl) | with_reducible apply DBox.alloc)) b)
        have K3 : Hid (TBox _ (w.heap.size + 1) (t)) := Lib.hid (TBox.below (by repeat (first | with_reducible exact K3.out | with_reducible apply TBox.drewN | with_reducible apply TBox.drew | (with_reducible refine TBox.newAt ?_ ?_ <;> first | (simp; done) | rfl) | with_reducible apply TBox.alloc)) b)
        try clear k0a k0b k0c k0d k0z
        have k0z := K0.out.lt
        obtain ⟨k0a, k0b, k0c, k0d⟩ := K0.out.cell
        try clear k3a k3b k3c k3d k3z
        have k3z := K3.out.lt
        obtain ⟨k3a, k3b, k3c, k3d⟩ := K3.out.cell
        clear b
        go_wp2_with fail
        rw [rounds_succ]
        go_wp2_with fail
        have qk0a := fun d os => cell_regrown k0a d os
        have qk0b := fun d os => cell_regrown k0b d os
        have qk0c := fun d os => cell_regrown k0c d os
        have qk3a := fun d os => cell_regrown k3a d os
        have qk3b := fun d os => cell_regrown k3b d os
        have qk3c := fun d os => cell_regrown k3c d os
        refine wp_region_quiet_below (by kernel_rfl) (by kernel_rfl) ?_
        repeat (first | go_big_quiet_step ((go_at_call 47; first | with_reducible exact Calls.regrown_of (HC0.out _) | with_reducible exact Calls.regrown_of (HC1.out _))) | quiet_step ((go_at_call 47; first | with_reducible exact Calls.regrown_of (HC0.out _) | with_reducible exact Calls.regrown_of (HC1.out _))))
        refine wpQuiet_nil ?_
        intro v2 hw2
        have b : Below v1.heap.size v1 v2 := by obtain ⟨r, hr⟩ := hw2; rw [hr]; exact below_regrown _ _ _
        clear hw2 qk0a qk0b qk0c qk3a qk3b qk3c
        have Sv2 := Lib.hid b.size
        have HB := Lib.hid (chain0 (w := w) (by repeat (first | with_reducible exact Below.refl _ _ | with_reducible exact HB.out | with_reducible apply Below.drew | with_reducible apply bdN | with_reducible refine Below.alloc ?_ (by first | exact Nat.le_refl _ | with_reducible exact HB.out.size | omega | (simp; done) | (simp; omega) | (have := HB.out.size; simp at *; omega)) _)) b)
        have HR := Lib.hid (Rd.below (by repeat (first | with_reducible exact HR.out | with_reducible apply Rd.drewN | with_reducible apply Rd.drew | with_reducible apply Rd.alloc)) b)
        have K0 : Hid (DBox _ (w.heap.size) (⟨31, s, nx, .slice p n cp⟩)) := Lib.hid (DBox.below (by repeat (first | with_reducible exact K0.out | with_reducible apply DBox.drewN | with_reducible apply DBox.drew | (with_reducible refine DBox.newAt ?_ ?_ <;> first | (simp; done) | rfl) | with_reducible apply DBox.alloc)) b)
        have K3 : Hid (TBox _ (w.heap.size + 1) (t)) := Lib.hid (TBox.below (by repeat (first | with_reducible exact K3.out | with_reducible apply TBox.drewN | with_reducible apply TBox.drew | (with_reducible refine TBox.newAt ?_ ?_ <;> first | (simp; done) | rfl) | with_reducible apply TBox.alloc)) b)
        try clear k0a k0b k0c k0d k0z
        have k0z := K0.out.lt
        obtain ⟨k0a, k0b, k0c, k0d⟩ := K0.out.cell
        try clear k3a k3b k3c k3d k3z
        have k3z := K3.out.lt
        obtain ⟨k3a, k3b, k3c, k3d⟩ := K3.out.cell
        clear b
        go_wp2_with fail
        go_ret
        exact ⟨ret_bool HT.out.symm, HB.out⟩
    · skip
      have HC0 := Lib.hid (show ∀ w, Calls Try.prog 47 #[.int .i64 t.a, .int .i64 0, .int .i64 ((n : Int) - 1)] w fun e w' => e = .returned (.bool true) ∧ Below w.heap.size w w' from fun w => by have h := l1_in t.a 0 ((n : Int) - 1) w; rwa [decide_eq_true hi0] at h)
      have HC1 := Lib.hid (show ∀ w, Calls Try.prog 47 #[.int .i64 t.b, .int .i64 0, .int .i64 ((n : Int) - 1)] w fun e w' => e = .returned (.bool false) ∧ Below w.heap.size w w' from fun w => by have h := l1_in t.b 0 ((n : Int) - 1) w; rwa [decide_eq_false hi1] at h)
      have HT := Lib.hid (has3_out (t := t) HD.out (by rw [HN.out]; omega))
      go_enter Try.func75, Try.ntmps75
      go_wp2_with fail
      obtain ⟨w0, ew, b⟩ : ∃ wOPN : World, wOPN = ((w.alloc (Dv.mk 31 s nx (.slice p n cp)).obj).alloc t.obj) ∧ Below (((w.alloc (Dv.mk 31 s nx (.slice p n cp)).obj).alloc t.obj)).heap.size (((w.alloc (Dv.mk 31 s nx (.slice p n cp)).obj).alloc t.obj)) wOPN := ⟨_, rfl, Below.refl _ _⟩
      rw [← ew]
      clear ew
      have Sw0 := Lib.hid b.size
      have HB := Lib.hid (chain0 (w := w) (by repeat (first | with_reducible exact Below.refl _ _ | with_reducible exact HB.out | with_reducible apply Below.drew | with_reducible apply bdN | with_reducible refine Below.alloc ?_ (by first | exact Nat.le_refl _ | with_reducible exact HB.out.size | omega | (simp; done) | (simp; omega) | (have := HB.out.size; simp at *; omega)) _)) b)
      have HR := Lib.hid (Rd.below (by repeat (first | with_reducible exact HR.out | with_reducible apply Rd.drewN | with_reducible apply Rd.drew | with_reducible apply Rd.alloc)) b)
      have K0 : Hid (DBox _ (w.heap.size) (⟨31, s, nx, .slice p n cp⟩)) := Lib.hid (DBox.below (by repeat (first | with_reducible exact K0.out | with_reducible apply DBox.drewN | with_reducible apply DBox.drew | (with_reducible refine DBox.newAt ?_ ?_ <;> first | (simp; done) | rfl) | with_reducible apply DBox.alloc)) b)
      have K3 : Hid (TBox _ (w.heap.size + 1) (t)) := Lib.hid (TBox.below (by repeat (first | with_reducible exact K3.out | with_reducible apply TBox.drewN | with_reducible apply TBox.drew | (with_reducible refine TBox.newAt ?_ ?_ <;> first | (simp; done) | rfl) | with_reducible apply TBox.alloc)) b)
      try clear k0a k0b k0c k0d k0z
      have k0z := K0.out.lt
      obtain ⟨k0a, k0b, k0c, k0d⟩ := K0.out.cell
      try clear k3a k3b k3c k3d k3z
      have k3z := K3.out.lt
      obtain ⟨k3a, k3b, k3c, k3d⟩ := K3.out.cell
      clear b
      refine wp_loop_rounds 4 ?_
      rw [rounds_succ]
      go_wp2_with fail
      have qk0a := fun d os => cell_regrown k0a d os
      have qk0b := fun d os => cell_regrown k0b d os
      have qk0c := fun d os => cell_regrown k0c d os
      have qk3a := fun d os => cell_regrown k3a d os
      have qk3b := fun d os => cell_regrown k3b d os
      have qk3c := fun d os => cell_regrown k3c d os
      refine wp_region_quiet_below (by kernel_rfl) (by kernel_rfl) ?_
      repeat (first | go_big_quiet_step ((go_at_call 47; first | with_reducible exact Calls.regrown_of (HC0.out _))) | quiet_step ((go_at_call 47; first | with_reducible exact Calls.regrown_of (HC0.out _))))
      refine wpQuiet_nil ?_
      intro v1 hw2
      have b : Below w0.heap.size w0 v1 := by obtain ⟨r, hr⟩ := hw2; rw [hr]; exact below_regrown _ _ _
      clear hw2 qk0a qk0b qk0c qk3a qk3b qk3c
      have Sv1 := Lib.hid b.size
      have HB := Lib.hid (chain0 (w := w) (by repeat (first | with_reducible exact Below.refl _ _ | with_reducible exact HB.out | with_reducible apply Below.drew | with_reducible apply bdN | with_reducible refine Below.alloc ?_ (by first | exact Nat.le_refl _ | with_reducible exact HB.out.size | omega | (simp; done) | (simp; omega) | (have := HB.out.size; simp at *; omega)) _)) b)
      have HR := Lib.hid (Rd.below (by repeat (first | with_reducible exact HR.out | with_reducible apply Rd.drewN | with_reducible apply Rd.drew | with_reducible apply Rd.alloc)) b)
      have K0 : Hid (DBox _ (w.heap.size) (⟨31, s, nx, .slice p n cp⟩)) := Lib.hid (DBox.below (by repeat (first | with_reducible exact K0.out | with_reducible apply DBox.drewN | with_reducible apply DBox.drew | (with_reducible refine DBox.newAt ?_ ?_ <;> first | (simp; done) | rfl) | with_reducible apply DBox.alloc)) b)
      have K3 : Hid (TBox _ (w.heap.size + 1) (t)) := Lib.hid (TBox.below (by repeat (first | with_reducible exact K3.out | with_reducible apply TBox.drewN | with_reducible apply TBox.drew | (with_reducible refine TBox.newAt ?_ ?_ <;> first | (simp; done) | rfl) | with_reducible apply TBox.alloc)) b)
      try clear k0a k0b k0c k0d k0z
      have k0z := K0.out.lt
      obtain ⟨k0a, k0b, k0c, k0d⟩ := K0.out.cell
      try clear k3a k3b k3c k3d k3z
      have k3z := K3.out.lt
      obtain ⟨k3a, k3b, k3c, k3d⟩ := K3.out.cell
      clear b
      go_wp2_with fail
      rw [rounds_succ]
      go_wp2_with fail
      have qk0a := fun d os => cell_regrown k0a d os
      have qk0b := fun d os => cell_regrown k0b d os
      have qk0c := fun d os => cell_regrown k0c d os
      have qk3a := fun d os => cell_regrown k3a d os
      have qk3b := fun d os => cell_regrown k3b d os
      have qk3c := fun d os => cell_regrown k3c d os
      refine wp_region_quiet_below (by kernel_rfl) (by kernel_rfl) ?_
      repeat (first | go_big_quiet_step ((go_at_call 47; first | with_reducible exact Calls.regrown_of (HC0.out _) | with_reducible exact Calls.regrown_of (HC1.out _))) | quiet_step ((go_at_call 47; first | with_reducible exact Calls.regrown_of (HC0.out _) | with_reducible exact Calls.regrown_of (HC1.out _))))
      refine wpQuiet_nil ?_
      intro v2 hw2
      have b : Below v1.heap.size v1 v2 := by obtain ⟨r, hr⟩ := hw2; rw [hr]; exact below_regrown _ _ _
      clear hw2 qk0a qk0b qk0c qk3a qk3b qk3c
      have Sv2 := Lib.hid b.size
      have HB := Lib.hid (chain0 (w := w) (by repeat (first | with_reducible exact Below.refl _ _ | with_reducible exact HB.out | with_reducible apply Below.drew | with_reducible apply bdN | with_reducible refine Below.alloc ?_ (by first | exact Nat.le_refl _ | with_reducible exact HB.out.size | omega | (simp; done) | (simp; omega) | (have := HB.out.size; simp at *; omega)) _)) b)
      have HR := Lib.hid (Rd.below (by repeat (first | with_reducible exact HR.out | with_reducible apply Rd.drewN | with_reducible apply Rd.drew | with_reducible apply Rd.alloc)) b)
      have K0 : Hid (DBox _ (w.heap.size) (⟨31, s, nx, .slice p n cp⟩)) := Lib.hid (DBox.below (by repeat (first | with_reducible exact K0.out | with_reducible apply DBox.drewN | with_reducible apply DBox.drew | (with_reducible refine DBox.newAt ?_ ?_ <;> first | (simp; done) | rfl) | with_reducible apply DBox.alloc)) b)
      have K3 : Hid (TBox _ (w.heap.size + 1) (t)) := Lib.hid (TBox.below (by repeat (first | with_reducible exact K3.out | with_reducible apply TBox.drewN | with_reducible apply TBox.drew | (with_reducible refine TBox.newAt ?_ ?_ <;> first | (simp; done) | rfl) | with_reducible apply TBox.alloc)) b)
      try clear k0a k0b k0c k0d k0z
      have k0z := K0.out.lt
      obtain ⟨k0a, k0b, k0c, k0d⟩ := K0.out.cell
      try clear k3a k3b k3c k3d k3z
      have k3z := K3.out.lt
      obtain ⟨k3a, k3b, k3c, k3d⟩ := K3.out.cell
      clear b
      go_wp2_with fail
      go_ret
      exact ⟨ret_bool HT.out.symm, HB.out⟩
  · skip
    have HC0 := Lib.hid (show ∀ w, Calls Try.prog 47 #[.int .i64 t.a, .int .i64 0, .int .i64 ((n : Int) - 1)] w fun e w' => e = .returned (.bool false) ∧ Below w.heap.size w w' from fun w => by have h := l1_in t.a 0 ((n : Int) - 1) w; rwa [decide_eq_false hi0] at h)
    have HT := Lib.hid (has3_out (t := t) HD.out (by rw [HN.out]; omega))
    go_enter Try.func75, Try.ntmps75
    go_wp2_with fail
    obtain ⟨w0, ew, b⟩ : ∃ wOPN : World, wOPN = ((w.alloc (Dv.mk 31 s nx (.slice p n cp)).obj).alloc t.obj) ∧ Below (((w.alloc (Dv.mk 31 s nx (.slice p n cp)).obj).alloc t.obj)).heap.size (((w.alloc (Dv.mk 31 s nx (.slice p n cp)).obj).alloc t.obj)) wOPN := ⟨_, rfl, Below.refl _ _⟩
    rw [← ew]
    clear ew
    have Sw0 := Lib.hid b.size
    have HB := Lib.hid (chain0 (w := w) (by repeat (first | with_reducible exact Below.refl _ _ | with_reducible exact HB.out | with_reducible apply Below.drew | with_reducible apply bdN | with_reducible refine Below.alloc ?_ (by first | exact Nat.le_refl _ | with_reducible exact HB.out.size | omega | (simp; done) | (simp; omega) | (have := HB.out.size; simp at *; omega)) _)) b)
    have HR := Lib.hid (Rd.below (by repeat (first | with_reducible exact HR.out | with_reducible apply Rd.drewN | with_reducible apply Rd.drew | with_reducible apply Rd.alloc)) b)
    have K0 : Hid (DBox _ (w.heap.size) (⟨31, s, nx, .slice p n cp⟩)) := Lib.hid (DBox.below (by repeat (first | with_reducible exact K0.out | with_reducible apply DBox.drewN | with_reducible apply DBox.drew | (with_reducible refine DBox.newAt ?_ ?_ <;> first | (simp; done) | rfl) | with_reducible apply DBox.alloc)) b)
    have K3 : Hid (TBox _ (w.heap.size + 1) (t)) := Lib.hid (TBox.below (by repeat (first | with_reducible exact K3.out | with_reducible apply TBox.drewN | with_reducible apply TBox.drew | (with_reducible refine TBox.newAt ?_ ?_ <;> first | (simp; done) | rfl) | with_reducible apply TBox.alloc)) b)
    try clear k0a k0b k0c k0d k0z
    have k0z := K0.out.lt
    obtain ⟨k0a, k0b, k0c, k0d⟩ := K0.out.cell
    try clear k3a k3b k3c k3d k3z
    have k3z := K3.out.lt
    obtain ⟨k3a, k3b, k3c, k3d⟩ := K3.out.cell
    clear b
    refine wp_loop_rounds 4 ?_
    rw [rounds_succ]
    go_wp2_with fail
    have qk0a := fun d os => cell_regrown k0a d os
    have qk0b := fun d os => cell_regrown k0b d os
    have qk0c := fun d os => cell_regrown k0c d os
    have qk3a := fun d os => cell_regrown k3a d os
    have qk3b := fun d os => cell_regrown k3b d os
    have qk3c := fun d os => cell_regrown k3c d os
    refine wp_region_quiet_below (by kernel_rfl) (by kernel_rfl) ?_
    repeat (first | go_big_quiet_step ((go_at_call 47; first | with_reducible exact Calls.regrown_of (HC0.out _))) | quiet_step ((go_at_call 47; first | with_reducible exact Calls.regrown_of (HC0.out _))))
    refine wpQuiet_nil ?_
    intro v1 hw2
    have b : Below w0.heap.size w0 v1 := by obtain ⟨r, hr⟩ := hw2; rw [hr]; exact below_regrown _ _ _
    clear hw2 qk0a qk0b qk0c qk3a qk3b qk3c
    have Sv1 := Lib.hid b.size
    have HB := Lib.hid (chain0 (w := w) (by repeat (first | with_reducible exact Below.refl _ _ | with_reducible exact HB.out | with_reducible apply Below.drew | with_reducible apply bdN | with_reducible refine Below.alloc ?_ (by first | exact Nat.le_refl _ | with_reducible exact HB.out.size | omega | (simp; done) | (simp; omega) | (have := HB.out.size; simp at *; omega)) _)) b)
    have HR := Lib.hid (Rd.below (by repeat (first | with_reducible exact HR.out | with_reducible apply Rd.drewN | with_reducible apply Rd.drew | with_reducible apply Rd.alloc)) b)
    have K0 : Hid (DBox _ (w.heap.size) (⟨31, s, nx, .slice p n cp⟩)) := Lib.hid (DBox.below (by repeat (first | with_reducible exact K0.out | with_reducible apply DBox.drewN | with_reducible apply DBox.drew | (with_reducible refine DBox.newAt ?_ ?_ <;> first | (simp; done) | rfl) | with_reducible apply DBox.alloc)) b)
    have K3 : Hid (TBox _ (w.heap.size + 1) (t)) := Lib.hid (TBox.below (by repeat (first | with_reducible exact K3.out | with_reducible apply TBox.drewN | with_reducible apply TBox.drew | (with_reducible refine TBox.newAt ?_ ?_ <;> first | (simp; done) | rfl) | with_reducible apply TBox.alloc)) b)
    try clear k0a k0b k0c k0d k0z
    have k0z := K0.out.lt
    obtain ⟨k0a, k0b, k0c, k0d⟩ := K0.out.cell
    try clear k3a k3b k3c k3d k3z
    have k3z := K3.out.lt
    obtain ⟨k3a, k3b, k3c, k3d⟩ := K3.out.cell
    clear b
    go_wp2_with fail
    go_ret
    exact ⟨ret_bool HT.out.symm, HB.out⟩

end Go.Proofs.Ytjpfjgoebdogjaa.deal
