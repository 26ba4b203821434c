/- Lines of a hand with their kinds: facts on lists of lines; five counts; kindAt. -/
import Derived.Test.YtjmlefcmhjodeaaZa
import Derived.Test.YtjmlefcmhjodeaaQt
import Derived.Test.YtjmlefcmhjodeaaVy
import Derived.Test.YtjmlefcmhjodeaaC7
import Derived.Deep.DeepCutAuto
namespace Go.Proofs.Ytjmlefcmhjodeaa.others
open Go.RowKit
open cards reg
open deal (TBox TBox.below TBox.newAt TBox.alloc TBox.cell TBox.lt TBox.drewN TBox.drew)
set_option linter.unusedVariables false

/-- What a line of a hand's list is. -/
theorem line_parts {l : List Cd} {n : Nat} (hn : l.length = n) (hs : sorted l) (hok : l.all Cd.ok = true) {a : A3} (ha : a ∈ allL l n) :
    ∃ (i j k : Nat) (x y z : Cd), a = ⟨i, j, k⟩ ∧ i < n ∧ j < n ∧ k < n ∧ l[i]? = some x ∧ l[j]? = some y ∧ l[k]? = some z ∧ line x y z = true := by
  obtain ⟨i, j, h1, h2, h3, h4⟩ := parting.mem_allL.1 ha
  have hx : l[i]? = some l[i] := List.getElem?_eq_getElem (by omega)
  have hy : l[j]? = some l[j] := List.getElem?_eq_getElem (by omega)
  unfold item at h4
  rw [hx, hy] at h4
  simp only at h4
  split at h4
  · rename_i h5
    have hk := there_lt h5.1
    have hz : l[less l (third l[i] l[j])]? = some l[less l (third l[i] l[j])] := List.getElem?_eq_getElem hk
    have hnum := (place_is (t := third l[i] l[j]) hs hz).2 ⟨h5.1, rfl⟩
    have hzz := num_inj (ok_at hok hz) (third_ok _ _) hnum
    refine ⟨i, j, _, _, _, _, by simpa using h4, by omega, by omega, by omega, hx, hy, hz, ?_⟩
    unfold line
    rw [Bool.and_eq_true, Bool.not_eq_true', Bool.eq_false_iff]
    refine ⟨fun e => ?_, same_iff.2 hzz.symm⟩
    have e := same_iff.1 e
    have := sorted_lt hs h2 hx hy
    rw [e] at this; omega
  · simp at h4
theorem line_dif {x y z : Cd} (h : line x y z = true) : 1 ≤ dif x y ∧ dif x y ≤ 4 := by
  have hne : same x y = false := by unfold line at h; rw [Bool.and_eq_true, Bool.not_eq_true'] at h; exact h.1
  rw [same_f] at hne
  unfold dif one
  by_cases h1 : x.a = y.a <;> by_cases h2 : x.b = y.b <;> by_cases h3 : x.c = y.c <;> by_cases h4 : x.d = y.d <;> simp [h1, h2, h3, h4] <;> exact hne ⟨h1, h2, h3, h4⟩
/-- The kind of a line of a list. -/
def kindL (l : List Cd) (a : A3) : Nat := match l[a.a.toNat]?, l[a.b.toNat]? with
  | some x, some y => (dif x y).toNat
  | _, _ => 0
theorem kindL_at {l : List Cd} {i j k : Nat} {x y : Cd} (hx : l[i]? = some x) (hy : l[j]? = some y) : kindL l ⟨i, j, k⟩ = (dif x y).toNat := by
  unfold kindL
  simp only [Int.toNat_natCast, hx, hy]

set_option maxRecDepth 100000 in
set_option maxHeartbeats 4000000 in
theorem kind_at (l : List Cd) (p : Option Addr) (n cp : Nat) (i j k : Nat) (x y z : Cd) (w : World) (hn : l.length = n) (hl : n ≤ 1000) (hr : Rd w p (flat l)) (hok : l.all Cd.ok = true) (hx : l[i]? = some x) (hy : l[j]? = some y) (hz : l[k]? = some z) (hli : line x y z = true) :
    Calls Try.prog 63 #[.slice p n cp, (A3.mk i j k).val] w fun e w' => e = .returned (.int .i64 (dif x y)) ∧ Below w.heap.size w w' := by
  have ox := ok_at hok hx
  have oy := ok_at hok hy
  have oz := ok_at hok hz
  have i1 := (List.getElem?_eq_some_iff.1 hx).1
  have j1 := (List.getElem?_eq_some_iff.1 hy).1
  have k1 := (List.getElem?_eq_some_iff.1 hz).1
  rw [hn] at i1 j1 k1
  have HK : Hid (∀ w, Calls Try.prog 92 #[x.val, y.val, z.val] w fun e w' => e = .returned (.tuple #[.int .i64 (dif x y), .bool true]) ∧ Below w.heap.size w w') := Lib.hid (fun w => by
    have h := impl_kind x y z w
    have e : kindR x y z = (dif x y, true) := by unfold kindR; rw [ox, oy, oz, hli]; rfl
    rw [e] at h; exact h)
  obtain ⟨bx, o, x', hp, hb, hx', c0, c1, c2, c3⟩ := hr.card (k := i) (by omega)
  subst hp
  rw [hx] at hx'; injection hx' with hx'; subst hx'
  obtain ⟨d0, d1, d2, d3⟩ := hr.at_ hy
  obtain ⟨e0, e1, e2, e3⟩ := hr.at_ hz
  obtain ⟨q, hq⟩ : ∃ q, dif x y = q := ⟨_, rfl⟩
  rw [hq] at HK ⊢
  clear hq hr hok hx hy hz hli ox oy oz hn
  have m0 : (0 : Int) ≤ (i : Int) := by omega
  have m1 : (i : Int) < (n : Int) := by omega
  have m2 : (0 : Int) ≤ (j : Int) := by omega
  have m3 : (j : Int) < (n : Int) := by omega
  have m4 : (0 : Int) ≤ (k : Int) := by omega
  have m5 : (k : Int) < (n : Int) := by omega
  have HBx := Lib.hid hb
  go_enter Try.func63, Try.ntmps63
  go_upto_region 1 with fail
  have b0 := Below.alloc (Below.refl w.heap.size w) (Nat.le_refl _) (A3.mk i j k).obj
  have c0 := (b0.cell (p := ⟨bx, _, none⟩) HBx.out).trans c0
  have c1 := (b0.cell (p := ⟨bx, _, none⟩) HBx.out).trans c1
  have c2 := (b0.cell (p := ⟨bx, _, none⟩) HBx.out).trans c2
  have c3 := (b0.cell (p := ⟨bx, _, none⟩) HBx.out).trans c3
  have d0 := (b0.cell (p := ⟨bx, _, none⟩) HBx.out).trans d0
  have d1 := (b0.cell (p := ⟨bx, _, none⟩) HBx.out).trans d1
  have d2 := (b0.cell (p := ⟨bx, _, none⟩) HBx.out).trans d2
  have d3 := (b0.cell (p := ⟨bx, _, none⟩) HBx.out).trans d3
  have e0 := (b0.cell (p := ⟨bx, _, none⟩) HBx.out).trans e0
  have e1 := (b0.cell (p := ⟨bx, _, none⟩) HBx.out).trans e1
  have e2 := (b0.cell (p := ⟨bx, _, none⟩) HBx.out).trans e2
  have e3 := (b0.cell (p := ⟨bx, _, none⟩) HBx.out).trans e3
  clear b0
  generalize hW : w.alloc (A3.mk i j k).obj = W at *
  have b : Below (w.alloc (A3.mk i j k).obj).heap.size (w.alloc (A3.mk i j k).obj) W := by rw [hW]; exact Below.refl _ _
  clear hW
  have SW := Lib.hid b.size
  have HB := Lib.hid (chain0 (w := w) (by repeat (first | with_reducible exact Below.refl _ _ | with_reducible exact HB.out | with_reducible apply Below.drew | with_reducible apply bdN | with_reducible refine Below.alloc ?_ (by first | exact Nat.le_refl _ | with_reducible exact HB.out.size | omega | (simp; done) | (simp; omega) | (have := HB.out.size; simp at *; omega)) _ | with_reducible refine Below.setCell ?_ (by first | exact Nat.le_refl _ | with_reducible exact HB.out.size | omega | (simp; done) | (simp; omega) | (have := HB.out.size; simp at *; omega)) _)) b)
  have K0 : Hid (TBox _ (w.heap.size) (⟨(i : Int), (j : Int), (k : Int)⟩)) := Lib.hid (TBox.below (by repeat (first | with_reducible exact K0.out | with_reducible apply TBox.drewN | with_reducible apply TBox.drew | (with_reducible refine TBox.newAt ?_ ?_ <;> first | (simp; done) | rfl) | with_reducible apply TBox.alloc)) b)
  try clear k0a k0b k0c k0d k0z
  have k0z := K0.out.lt
  obtain ⟨k0a, k0b, k0c, k0d⟩ := K0.out.cell
  clear b
  have qk0a := fun d os => cell_regrown k0a d os
  have qk0b := fun d os => cell_regrown k0b d os
  have qk0c := fun d os => cell_regrown k0c d os
  have qc0 := fun d os => cell_regrown c0 d os
  have qc1 := fun d os => cell_regrown c1 d os
  have qc2 := fun d os => cell_regrown c2 d os
  have qc3 := fun d os => cell_regrown c3 d os
  have qd0 := fun d os => cell_regrown d0 d os
  have qd1 := fun d os => cell_regrown d1 d os
  have qd2 := fun d os => cell_regrown d2 d os
  have qd3 := fun d os => cell_regrown d3 d os
  have qe0 := fun d os => cell_regrown e0 d os
  have qe1 := fun d os => cell_regrown e1 d os
  have qe2 := fun d os => cell_regrown e2 d os
  have qe3 := fun d os => cell_regrown e3 d os
  refine wp_region_quiet_below (by kernel_rfl) (by kernel_rfl) ?_
  repeat (first | go_big_quiet_step ((go_at_call 92; with_reducible exact Calls.regrown_of (HK.out _))) | quiet_step ((go_at_call 92; with_reducible exact Calls.regrown_of (HK.out _))))
  refine wpQuiet_nil ?_
  intro w2 hw2
  have b : Below W.heap.size W w2 := by obtain ⟨r, hr⟩ := hw2; rw [hr]; exact below_regrown _ _ _
  clear hw2 qc0 qc1 qc2 qc3 qd0 qd1 qd2 qd3 qe0 qe1 qe2 qe3 qk0a qk0b qk0c
  have Sw2 := Lib.hid b.size
  have HB := Lib.hid (chain0 (w := w) (by repeat (first | with_reducible exact Below.refl _ _ | with_reducible exact HB.out | with_reducible apply Below.drew | with_reducible apply bdN | with_reducible refine Below.alloc ?_ (by first | exact Nat.le_refl _ | with_reducible exact HB.out.size | omega | (simp; done) | (simp; omega) | (have := HB.out.size; simp at *; omega)) _ | with_reducible refine Below.setCell ?_ (by first | exact Nat.le_refl _ | with_reducible exact HB.out.size | omega | (simp; done) | (simp; omega) | (have := HB.out.size; simp at *; omega)) _)) b)
  have K0 : Hid (TBox _ (w.heap.size) (⟨(i : Int), (j : Int), (k : Int)⟩)) := Lib.hid (TBox.below (by repeat (first | with_reducible exact K0.out | with_reducible apply TBox.drewN | with_reducible apply TBox.drew | (with_reducible refine TBox.newAt ?_ ?_ <;> first | (simp; done) | rfl) | with_reducible apply TBox.alloc)) b)
  try clear k0a k0b k0c k0d k0z
  have k0z := K0.out.lt
  obtain ⟨k0a, k0b, k0c, k0d⟩ := K0.out.cell
  clear b
  clear c0 c1 c2 c3 d0 d1 d2 d3 e0 e1 e2 e3
  go_wp2_with fail
  go_ret
  exact ⟨rfl, HB.out⟩
end Go.Proofs.Ytjmlefcmhjodeaa.others
