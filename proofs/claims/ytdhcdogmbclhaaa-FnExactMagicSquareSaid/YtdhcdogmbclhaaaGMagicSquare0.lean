/- Merged texts: Yi, Yf. -/
import Derived.Test.YtdhcdogmbclhaaaYh
import Derived.Test.YtdhcdogmbclhaaaOo
import Derived.Test.YtdhcdogmbclhaaaRx
import Derived.Test.YtdhcdogmbclhaaaYd
/- MagicSquare: the model's. -/
namespace Go.Proofs.Ytdhcdogmbclhaaa.planes
open Go.RowKit
open cards reg
set_option linter.unusedVariables false

theorem exec_add {u v : Int} (h : -1000000 ≤ u + v ∧ u + v ≤ 1000000) {a : Act} {o : Oper} {p q : Operand} {s : TypeId} (ho : o.op = .binOp .add 3 p q s) (hp : a.eval p = .int .i64 u) (hq : a.eval q = .int .i64 v) (w : World) :
    (execOp a.eval o).run Try.prog w = .ok (.value (.int .i64 (u + v))) w := by
  unfold execOp
  rw [ho]
  simp only [hp, hq]
  go_simp
  exact IntWalk.i64_in _ (by omega)
theorem exec_sub {u v : Int} (h : -1000000 ≤ u - v ∧ u - v ≤ 1000000) {a : Act} {o : Oper} {p q : Operand} {s : TypeId} (ho : o.op = .binOp .sub 3 p q s) (hp : a.eval p = .int .i64 u) (hq : a.eval q = .int .i64 v) (w : World) :
    (execOp a.eval o).run Try.prog w = .ok (.value (.int .i64 (u - v))) w := by
  unfold execOp
  rw [ho]
  simp only [hp, hq]
  go_simp
  exact IntWalk.i64_in _ (by omega)
theorem exec_mul {u v : Int} (h : -1000000 ≤ u * v ∧ u * v ≤ 1000000) {a : Act} {o : Oper} {p q : Operand} {s : TypeId} (ho : o.op = .binOp .mul 3 p q s) (hp : a.eval p = .int .i64 u) (hq : a.eval q = .int .i64 v) (w : World) :
    (execOp a.eval o).run Try.prog w = .ok (.value (.int .i64 (u * v))) w := by
  unfold execOp
  rw [ho]
  simp only [hp, hq]
  go_simp
  exact IntWalk.i64_in _ (by omega)
theorem exec_rem3 {u : Int} (h0 : 0 ≤ u) (h1 : u ≤ 1000000) {a : Act} {o : Oper} {p : Operand} {s : TypeId} (ho : o.op = .binOp .rem 3 p (.const (.int .i64 3)) s) (hp : a.eval p = .int .i64 u) (w : World) :
    (execOp a.eval o).run Try.prog w = .ok (.value (.int .i64 (u % 3))) w := by
  have e := Int.tmod_eq_emod_of_nonneg (b := 3) h0
  unfold execOp
  rw [ho]
  simp only [hp]
  go_simp
  first | done | (rw [e]; exact IntWalk.i64_in _ (by omega)) | exact e | (rw [e])
theorem exec_quo3 {u : Int} (h0 : 0 ≤ u) (h1 : u ≤ 1000000) {a : Act} {o : Oper} {p : Operand} {s : TypeId} (ho : o.op = .binOp .quo 3 p (.const (.int .i64 3)) s) (hp : a.eval p = .int .i64 u) (w : World) :
    (execOp a.eval o).run Try.prog w = .ok (.value (.int .i64 (u / 3))) w := by
  have e := Int.tdiv_eq_ediv_of_nonneg (b := 3) h0
  unfold execOp
  rw [ho]
  simp only [hp]
  go_simp
  first | done | exact IntWalk.i64_in _ (by omega) | (rw [e]; exact IntWalk.i64_in _ (by omega)) | exact e | (rw [e])
theorem exec_index4 {N off : Nat} (hN : N < 4) {a : Act} {o : Oper} {p q : Operand} (ho : o.op = .indexAddr 33 p q) {g : Nat} (hp : a.eval p = .pointer (some ⟨g, off, none⟩)) (hq : a.eval q = .int .i64 N) (w : World) :
    (execOp a.eval o).run Try.prog w = .ok (.value (.pointer (some ⟨g, off + N, none⟩))) w := by
  have h0 : (0 : Int) ≤ (N : Int) := by omega
  have h1 : (N : Int) < 4 := by omega
  unfold execOp
  rw [ho]
  simp only [hp, hq]
  go_simp
theorem exec_index9 {N : Nat} (hN : N < 9) {a : Act} {o : Oper} {p q : Operand} (ho : o.op = .indexAddr 37 p q) {g : Nat} (hp : a.eval p = .pointer (some ⟨g, 0, none⟩)) (hq : a.eval q = .int .i64 N) (w : World) :
    (execOp a.eval o).run Try.prog w = .ok (.value (.pointer (some ⟨g, N * 4, none⟩))) w := by
  have h0 : (0 : Int) ≤ (N : Int) := by omega
  have h1 : (N : Int) < 9 := by omega
  unfold execOp
  rw [ho]
  simp only [hp, hq]
  go_simp
def tr (x : Cd) : Nat → Int
  | 0 => x.a
  | 1 => x.b
  | 2 => x.c
  | _ => x.d
theorem tr_bd {x : Cd} (h : x.ok = true) (k : Nat) : 0 ≤ tr x k ∧ tr x k ≤ 2 := by
  obtain ⟨h1, h2, h3, h4⟩ := Cd.bd h
  match k with
  | 0 => exact h1
  | 1 => exact h2
  | 2 => exact h3
  | n + 3 => exact h4
theorem box_tr {w : World} {g : Nat} {x : Cd} (h : Box w g x) {k : Nat} (hk : k < 4) : w.cell? ⟨g, 0 + k, none⟩ = some (.int .i64 (tr x k)) := by
  obtain ⟨h1, h2, h3, h4⟩ := h.cell
  rw [Nat.zero_add]
  rcases (show k = 0 ∨ k = 1 ∨ k = 2 ∨ k = 3 by omega) with rfl | rfl | rfl | rfl
  · exact h1
  · exact h2
  · exact h3
  · exact h4
def msV (a b c : Cd) (j : Nat) : Int := lin (((j / 4 : Nat) : Int) % 3) (((j / 4 : Nat) : Int) / 3) (tr a (j % 4)) (tr b (j % 4)) (tr c (j % 4))
/-- The square when n numbers are told. -/
def msA (a b c : Cd) (n : Nat) : Array Value := ((List.range 36).map fun j => .int .i64 (if j < n then msV a b c j else 0)).toArray
theorem msA_size (a b c : Cd) (n : Nat) : (msA a b c n).size = 36 := by simp [msA]
theorem msA_zero (a b c : Cd) : msA a b c 0 = z36 := by kernel_rfl
theorem msA_all (a b c : Cd) : msA a b c 36 = av (sq a b c) := by kernel_rfl
theorem msA_at {a b c : Cd} {n j : Nat} (hj : j < 36) : (msA a b c n)[j]? = some (.int .i64 (if j < n then msV a b c j else 0)) := by simp [msA, hj]
theorem msA_set {a b c : Cd} {n : Nat} (hn : n < 36) : (msA a b c n).set! n (.int .i64 (msV a b c n)) = msA a b c (n + 1) := by
  apply Array.ext_getElem?
  intro j
  rw [Array.set!_eq_setIfInBounds, Array.getElem?_setIfInBounds]
  by_cases e : n = j
  · subst e
    rw [if_pos rfl, if_pos (by rw [msA_size]; exact hn), msA_at hn, if_pos (by omega)]
  · rw [if_neg e]
    by_cases hj : j < 36
    · rw [msA_at hj, msA_at hj]
      by_cases h : j < n
      · rw [if_pos h, if_pos (by omega)]
      · rw [if_neg h, if_neg (by omega)]
    · rw [Array.getElem?_eq_none (by rw [msA_size]; omega), Array.getElem?_eq_none (by rw [msA_size]; omega)]
theorem mul9 {u v : Int} (h0 : 0 ≤ u) (h1 : u ≤ 2) (h2 : 1 ≤ v) (h3 : v ≤ 5) : 0 ≤ u * v ∧ u * v ≤ 10 := by
  have : u = 0 ∨ u = 1 ∨ u = 2 := by omega
  rcases this with rfl | rfl | rfl <;> omega

set_option maxRecDepth 100000 in
set_option maxHeartbeats 8000000 in
theorem spec_ms (a b c : Cd) (w : World) :
    Calls Try.prog 29 #[a.val, b.val, c.val] w fun e w' => e = .returned (.tuple #[.agg (msR a b c).1, .bool (msR a b c).2]) ∧ Below w.heap.size w w' := by
  have HI := Lib.hid (fun w => l6_open a b c w)
  have K0 : Hid (Box ((((w.alloc a.obj).alloc b.obj).alloc c.obj).alloc (.cells z36 37)) (w.heap.size) a) := Lib.hid ((((Box.newAt rfl rfl).alloc _).alloc _).alloc _)
  have K1 : Hid (Box ((((w.alloc a.obj).alloc b.obj).alloc c.obj).alloc (.cells z36 37)) (w.heap.size + 1) b) := Lib.hid (((Box.newAt (by simp) rfl).alloc _).alloc _)
  have K2 : Hid (Box ((((w.alloc a.obj).alloc b.obj).alloc c.obj).alloc (.cells z36 37)) (w.heap.size + 1 + 1) c) := Lib.hid ((Box.newAt (by simp) rfl).alloc _)
  have K6 : Hid (VB ((((w.alloc a.obj).alloc b.obj).alloc c.obj).alloc (.cells z36 37)) (w.heap.size + 1 + 1 + 1) 37 z36) := Lib.hid (VB.newAt (by simp) rfl)
  have HB : Hid (Below w.heap.size w ((((w.alloc a.obj).alloc b.obj).alloc c.obj).alloc (.cells z36 37))) := Lib.hid (((((Below.refl _ _).alloc (Nat.le_refl _) _).alloc (by simp) _).alloc (by simp; omega) _).alloc (by simp; omega) _)
  have HZ := Lib.hid z36_size
  have HZ1 := Lib.hid z36_one
  go_enter Try.func29, Try.ntmps29
  go_upto_region 1 with fail
  obtain ⟨g0, hg0⟩ : ∃ g, w.heap.size = g := ⟨_, rfl⟩
  obtain ⟨g1, hg1⟩ : ∃ g, w.heap.size + 1 = g := ⟨_, rfl⟩
  obtain ⟨g2, hg2⟩ : ∃ g, w.heap.size + 1 + 1 = g := ⟨_, rfl⟩
  obtain ⟨g6, hg6⟩ : ∃ g, w.heap.size + 1 + 1 + 1 = g := ⟨_, rfl⟩
  have HG0 := Lib.hid (show w.heap.size = g0 ∧ g1 = g0 + 1 ∧ g2 = g0 + 2 ∧ g6 = g0 + 3 by omega)
  rw [hg6] at K6
  rw [hg2] at K2
  rw [hg1] at K1
  rw [hg0] at K0 HB
  try rw [hg6]
  try rw [hg2]
  try rw [hg1]
  try rw [hg0]
  clear hg0 hg1 hg2 hg6
  generalize ((((w.alloc a.obj).alloc b.obj).alloc c.obj).alloc (.cells z36 37)) = W at *
  have h6W := K6.out.lt
  have K0 := Lib.hid (K0.out.alloc (.cells z36 37))
  have K1 := Lib.hid (K1.out.alloc (.cells z36 37))
  have K2 := Lib.hid (K2.out.alloc (.cells z36 37))
  have K6 := Lib.hid (K6.out.alloc (.cells z36 37))
  have K8n : Hid (VB (W.alloc (.cells z36 37)) W.heap.size 37 z36) := Lib.hid (VB.newAt rfl rfl)
  have HB : Hid (Below g0 w (W.alloc (.cells z36 37))) := Lib.hid (HB.out.alloc (by have := HG0.out; omega) _)
  go_upto_region 2 with ((with_reducible refine store_s9 rfl _ _ rfl K8n.out HZ.out ?_ z36 HZ.out HZ1.out ?_ ?_); rfl; rfl; intro w3 hM hG)
  obtain ⟨g8, hg8⟩ : ∃ g, W.heap.size = g := ⟨_, rfl⟩
  have HG := Lib.hid (show w.heap.size = g0 ∧ g1 = g0 + 1 ∧ g2 = g0 + 2 ∧ g6 = g0 + 3 ∧ g6 < g8 by have := HG0.out; omega)
  have hne := HG.out
  rw [hg8] at hM hG
  have K0 := Lib.hid (off_box K0.out hG (by omega))
  have K1 := Lib.hid (off_box K1.out hG (by omega))
  have K2 := Lib.hid (off_box K2.out hG (by omega))
  have K6 := Lib.hid (VB.marked K6.out hG (fun e => by injection e with e; omega))
  have K8 := Lib.hid hM
  have HB : Hid (Below g0 w w3) := Lib.hid (HB.out.grown hG (by simp; omega) (fun k hk => by injection hk with hk; omega))
  try rw [hg8]
  clear hg8 hM hG K8n h6W HG0 hne
  generalize w3 = W at *
  obtain ⟨k0a, k0b, k0c, k0d⟩ := K0.out.cell
  obtain ⟨k1a, k1b, k1c, k1d⟩ := K1.out.cell
  obtain ⟨k2a, k2b, k2c, k2d⟩ := K2.out.cell
  have HBz : Hid (g0 ≤ W.heap.size) := Lib.hid (by have := K0.out.lt; omega)
  cases hh : triB a b c
  · have HT := Lib.hid (show msR a b c = (z36, false) by unfold msR; rw [if_neg (by simp [hh])])
    rw [hh] at HI
    clear hh
    go_wp2_with fail
    refine (HI.out _).mono ?_
    rintro e w1 ⟨rfl, q⟩
    have HB : Hid (Below g0 w w1) := Lib.hid (HB.out.trans (q.mono HBz.out))
    have hz1 := Nat.le_trans HBz.out q.size
    have K6 := Lib.hid (K6.out.below q)
    have K8 := Lib.hid (K8.out.below q)
    clear q k0a k0b k0c k0d k1a k1b k1c k1d k2a k2b k2c k2d K0 K1 K2
    go_wp2_with (first | ((with_reducible refine take_s9 rfl _ rfl K8.out HZ.out ?_ ?_); rfl) | ((with_reducible refine store_s9 rfl _ _ rfl K6.out HZ.out ?_ z36 HZ.out HZ1.out ?_ ?_); rfl; rfl; intro w5 hM hG))
    try simp only [Exit.inBlock, Exit.then]
    refine bodyPost_ret (res_vb2 Try.results29 rfl hM Try.underlying37 z36_info) rfl ?_
    exact ⟨by rw [HT.out]; rfl, by rw [HG.out.1]; exact HB.out.grown hG hz1 (fun k hk => by injection hk with hk; have := HG.out; omega)⟩
  · have HT := Lib.hid (show msR a b c = (av (sq a b c), true) by unfold msR; rw [if_pos hh])
    have HS0 := Lib.hid (av_sq_size a b c)
    have HS1 := Lib.hid (av_one (sq a b c))
    have HO := Lib.hid (triB_ok hh)
    rw [hh] at HI
    clear hh
    go_wp2_with fail
    refine (HI.out _).mono ?_
    rintro e w1 ⟨rfl, q⟩
    have HB : Hid (Below g0 w w1) := Lib.hid (HB.out.trans (q.mono HBz.out))
    have K0 := Lib.hid (K0.out.below q)
    have K1 := Lib.hid (K1.out.below q)
    have K2 := Lib.hid (K2.out.below q)
    have K6 := Lib.hid (K6.out.below q)
    have K8 : Hid (VB w1 g8 37 (msA a b c (4 * 0))) := Lib.hid (by rw [Nat.mul_zero, msA_zero]; exact K8.out.below q)
    clear q k0a k0b k0c k0d k1a k1b k1c k1d k2a k2b k2c k2d
    go_wp2_with fail
    go_loopw [9] (fun iv wr => ∃ i : Nat, i ≤ 9 ∧ iv = .int .i64 i ∧ Hid (VB wr g8 37 (msA a b c (4 * i))) ∧ Hid (Below g0 w wr) ∧ Hid (Box wr g0 a) ∧ Hid (Box wr g1 b) ∧ Hid (Box wr g2 c) ∧ Hid (VB wr g6 37 z36)) (fun iv _ => 9 - (intOf iv).toNat)
    case atStart => exact ⟨0, Nat.zero_le _, rfl, K8, HB, K0, K1, K2, K6⟩
    case round =>
      clear K8 HB K0 K1 K2 K6
      obtain ⟨i, hi, rfl, K8, HB, K0, K1, K2, K6⟩ := hrel
      by_cases hit : i < 9
      · have m0 : (0 : Int) ≤ (i : Int) := by omega
        have m1 : (i : Int) < 9 := by omega
        have K8 : Hid (VB wr g8 37 (msA a b c (4 * i + 0))) := K8
        go_wp2_with fail
        go_loopw [10] (fun kv wq => ∃ k : Nat, k ≤ 4 ∧ kv = .int .i64 k ∧ Hid (VB wq g8 37 (msA a b c (4 * i + k))) ∧ Hid (Below g0 w wq) ∧ Hid (Box wq g0 a) ∧ Hid (Box wq g1 b) ∧ Hid (Box wq g2 c) ∧ Hid (VB wq g6 37 z36)) (fun kv _ => 4 - (intOf kv).toNat)
        case atStart => exact ⟨0, Nat.zero_le _, rfl, K8, HB, K0, K1, K2, K6⟩
        case round =>
          clear K8 HB K0 K1 K2 K6
          obtain ⟨k, hk, rfl, K8, HB, K0, K1, K2, K6⟩ := hrel
          have n0 : (0 : Int) ≤ (k : Int) := by omega
          by_cases hkt : k < 4
          · have n1 : (k : Int) < 4 := by omega
            have ca := box_tr K0.out hkt
            have cb := box_tr K1.out hkt
            have cc := box_tr K2.out hkt
            have hg0 := K0.out.lt
            have hg1 := K1.out.lt
            have hg2 := K2.out.lt
            have bx := tr_bd HO.out.1 k
            have byy := tr_bd HO.out.2.1 k
            have bz := tr_bd HO.out.2.2 k
            have hd : (4 * i + k) / 4 = i := by omega
            have hm : (4 * i + k) % 4 = k := by omega
            have HV : Hid (msV a b c (4 * i + k) = lin ((i : Int) % 3) ((i : Int) / 3) (tr a k) (tr b k) (tr c k)) := Lib.hid (by unfold msV; rw [hd, hm])
            have HS := Lib.hid (msA_set (a := a) (b := b) (c := c) (n := 4 * i + k) (by omega))
            have HAt := Lib.hid (msA_at (a := a) (b := b) (c := c) (n := 4 * i + k) (j := 4 * i + k) (by omega))
            obtain ⟨x, hx⟩ : ∃ x, tr a k = x := ⟨_, rfl⟩
            obtain ⟨y, hy⟩ : ∃ x, tr b k = x := ⟨_, rfl⟩
            obtain ⟨z, hz⟩ : ∃ x, tr c k = x := ⟨_, rfl⟩
            rw [hx] at ca bx HV
            rw [hy] at cb byy HV
            rw [hz] at cc bz HV
            clear hx hy hz hd hm
            have p1 := mul9 (u := (i : Int) % 3) (v := y - x + 3) (by omega) (by omega) (by omega) (by omega)
            have p2 := mul9 (u := (i : Int) / 3) (v := z - x + 3) (by omega) (by omega) (by omega) (by omega)
            have HG' := HG.out
            go_upto_region 10 with fail
            refine region_storeG g8 [(true, 0), (true, 1), (true, 2), (true, 3), (true, 4), (true, 5), (true, 6), (true, 7), (true, 8), (true, 9), (true, 10), (true, 11), (true, 12), (true, 13), (true, 14), (true, 15), (true, 16), (true, 17), (true, 18), (true, 19), (true, 20), (true, 21), (true, 22), (true, 23), (true, 24), (true, 25), (true, 26), (true, 27), (true, 28), (true, 29), (true, 30), (true, 31)] 32 _ (by kernel_rfl) rfl (by kernel_rfl) rfl rfl rfl ?_
            refine chain_pure 26 (v := .int .i64 i) rfl rfl rfl (fun w => by kernel_rfl) ?_
            refine chain_pure 27 (v := .int .i64 k) rfl rfl rfl (fun w => by kernel_rfl) ?_
            refine chain_pure 28 (v := .int .i64 k) rfl rfl rfl (fun w => by kernel_rfl) ?_
            refine chain_pure 29 (v := .pointer (some ⟨g0, 0 + k, none⟩)) rfl rfl rfl (exec_index4 hkt rfl (by kernel_rfl) (by kernel_rfl)) ?_
            refine chain_int 30 rfl rfl rfl rfl (by kernel_rfl) (fun w' h => GS.cell h ca hg0 (by omega)) ?_
            refine chain_pure 31 (v := .int .i64 i) rfl rfl rfl (fun w => by kernel_rfl) ?_
            refine chain_pure 32 (v := .int .i64 ((i : Int) % 3)) rfl rfl rfl (exec_rem3 (by omega) (by omega) rfl (by kernel_rfl)) ?_
            refine chain_pure 33 (v := .int .i64 k) rfl rfl rfl (fun w => by kernel_rfl) ?_
            refine chain_pure 34 (v := .pointer (some ⟨g1, 0 + k, none⟩)) rfl rfl rfl (exec_index4 hkt rfl (by kernel_rfl) (by kernel_rfl)) ?_
            refine chain_int 35 rfl rfl rfl rfl (by kernel_rfl) (fun w' h => GS.cell h cb hg1 (by omega)) ?_
            refine chain_pure 36 (v := .int .i64 k) rfl rfl rfl (fun w => by kernel_rfl) ?_
            refine chain_pure 37 (v := .pointer (some ⟨g0, 0 + k, none⟩)) rfl rfl rfl (exec_index4 hkt rfl (by kernel_rfl) (by kernel_rfl)) ?_
            refine chain_int 38 rfl rfl rfl rfl (by kernel_rfl) (fun w' h => GS.cell h ca hg0 (by omega)) ?_
            refine chain_pure 39 (v := .int .i64 (y - x)) rfl rfl rfl (exec_sub (by omega) rfl (by kernel_rfl) (by kernel_rfl)) ?_
            refine chain_pure 40 (v := .int .i64 (y - x + 3)) rfl rfl rfl (exec_add (by omega) rfl (by kernel_rfl) (by kernel_rfl)) ?_
            refine chain_pure 41 (v := .int .i64 ((i : Int) % 3 * (y - x + 3))) rfl rfl rfl (exec_mul (by omega) rfl (by kernel_rfl) (by kernel_rfl)) ?_
            refine chain_pure 42 (v := .int .i64 (x + (i : Int) % 3 * (y - x + 3))) rfl rfl rfl (exec_add (by omega) rfl (by kernel_rfl) (by kernel_rfl)) ?_
            refine chain_pure 43 (v := .int .i64 i) rfl rfl rfl (fun w => by kernel_rfl) ?_
            refine chain_pure 44 (v := .int .i64 ((i : Int) / 3)) rfl rfl rfl (exec_quo3 (by omega) (by omega) rfl (by kernel_rfl)) ?_
            refine chain_pure 45 (v := .int .i64 k) rfl rfl rfl (fun w => by kernel_rfl) ?_
            refine chain_pure 46 (v := .pointer (some ⟨g2, 0 + k, none⟩)) rfl rfl rfl (exec_index4 hkt rfl (by kernel_rfl) (by kernel_rfl)) ?_
            refine chain_int 47 rfl rfl rfl rfl (by kernel_rfl) (fun w' h => GS.cell h cc hg2 (by omega)) ?_
            refine chain_pure 48 (v := .int .i64 k) rfl rfl rfl (fun w => by kernel_rfl) ?_
            refine chain_pure 49 (v := .pointer (some ⟨g0, 0 + k, none⟩)) rfl rfl rfl (exec_index4 hkt rfl (by kernel_rfl) (by kernel_rfl)) ?_
            refine chain_int 50 rfl rfl rfl rfl (by kernel_rfl) (fun w' h => GS.cell h ca hg0 (by omega)) ?_
            refine chain_pure 51 (v := .int .i64 (z - x)) rfl rfl rfl (exec_sub (by omega) rfl (by kernel_rfl) (by kernel_rfl)) ?_
            refine chain_pure 52 (v := .int .i64 (z - x + 3)) rfl rfl rfl (exec_add (by omega) rfl (by kernel_rfl) (by kernel_rfl)) ?_
            refine chain_pure 53 (v := .int .i64 ((i : Int) / 3 * (z - x + 3))) rfl rfl rfl (exec_mul (by omega) rfl (by kernel_rfl) (by kernel_rfl)) ?_
            refine chain_pure 54 (v := .int .i64 (x + (i : Int) % 3 * (y - x + 3) + (i : Int) / 3 * (z - x + 3))) rfl rfl rfl (exec_add (by omega) rfl (by kernel_rfl) (by kernel_rfl)) ?_
            refine chain_pure 55 (v := .int .i64 ((x + (i : Int) % 3 * (y - x + 3) + (i : Int) / 3 * (z - x + 3)) % 3)) rfl rfl rfl (exec_rem3 (by omega) (by omega) rfl (by kernel_rfl)) ?_
            refine chain_pure 56 (v := .pointer (some ⟨g8, i * 4, none⟩)) rfl rfl rfl (exec_index9 hit rfl (by kernel_rfl) (by kernel_rfl)) ?_
            refine chain_pure 57 (v := .pointer (some ⟨g8, i * 4 + k, none⟩)) rfl rfl rfl (exec_index4 hkt rfl (by kernel_rfl) (by kernel_rfl)) ?_
            intro w4 b4
            have hz4 := K8.out.below b4
            refine ⟨w4.setCell ⟨g8, i * 4 + k, none⟩ (.int .i64 ((x + (i : Int) % 3 * (y - x + 3) + (i : Int) / 3 * (z - x + 3)) % 3)), exec_storeI rfl (by kernel_rfl) (by kernel_rfl) (hz4.at_ (by rw [show i * 4 + k = 4 * i + k by omega]; exact HAt.out)) (hz4.frozen _), (BI.gs g8 b4).set_ _ _, ?_⟩
            simp only [Act.put, List.setIfInBounds_toArray, List.set_cons_zero, List.set_cons_succ]
            have hS : VB (w4.setCell ⟨g8, i * 4 + k, none⟩ (.int .i64 ((x + (i : Int) % 3 * (y - x + 3) + (i : Int) / 3 * (z - x + 3)) % 3))) g8 37 (msA a b c (4 * i + (k + 1))) := by
              rw [show i * 4 + k = 4 * i + k by omega]
              exact VB.set_ hz4 (by rw [← Nat.add_assoc, ← HS.out, HV.out]; rfl)
            have HS8 := Lib.hid hS
            have HB : Hid (Below g0 w (w4.setCell ⟨g8, i * 4 + k, none⟩ (.int .i64 ((x + (i : Int) % 3 * (y - x + 3) + (i : Int) / 3 * (z - x + 3)) % 3)))) := Lib.hid ((HB.out.trans (Below.mono b4 (by omega))).setCell (by simp only; omega) _)
            have K0 := Lib.hid ((K0.out.below b4).far (p := ⟨g8, i * 4 + k, none⟩) (by simp only; omega) (.int .i64 ((x + (i : Int) % 3 * (y - x + 3) + (i : Int) / 3 * (z - x + 3)) % 3)))
            have K1 := Lib.hid ((K1.out.below b4).far (p := ⟨g8, i * 4 + k, none⟩) (by simp only; omega) (.int .i64 ((x + (i : Int) % 3 * (y - x + 3) + (i : Int) / 3 * (z - x + 3)) % 3)))
            have K2 := Lib.hid ((K2.out.below b4).far (p := ⟨g8, i * 4 + k, none⟩) (by simp only; omega) (.int .i64 ((x + (i : Int) % 3 * (y - x + 3) + (i : Int) / 3 * (z - x + 3)) % 3)))
            have K6 := Lib.hid ((K6.out.below b4).far (p := ⟨g8, i * 4 + k, none⟩) (by simp only; omega) (.int .i64 ((x + (i : Int) % 3 * (y - x + 3) + (i : Int) / 3 * (z - x + 3)) % 3)))
            clear hS hz4 b4 ca cb cc p1 p2
            generalize w4.setCell ⟨g8, i * 4 + k, none⟩ (.int .i64 ((x + (i : Int) % 3 * (y - x + 3) + (i : Int) / 3 * (z - x + 3)) % 3)) = w5 at *
            go_wp2_with fail
            go_roundw
            case rel => exact ⟨k + 1, by omega, by go_num, HS8, HB, K0, K1, K2, K6⟩
            case measure => simp [intOf]; omega
          · obtain rfl : k = 4 := by omega
            go_wp2_with fail
            go_roundw
            case rel => exact ⟨i + 1, by omega, by go_num, K8, HB, K0, K1, K2, K6⟩
            case measure => simp [intOf]; omega
      · obtain rfl : i = 9 := by omega
        have K8 : Hid (VB wr g8 37 (av (sq a b c))) := Lib.hid (by rw [← msA_all]; exact K8.out)
        have hz := K8.out.lt
        go_wp2_with (first | ((with_reducible refine take_s9 rfl _ rfl K8.out HS0.out ?_ ?_); rfl) | ((with_reducible refine store_s9 rfl _ _ rfl K6.out HZ.out ?_ (av (sq a b c)) HS0.out HS1.out ?_ ?_); rfl; rfl; intro w5 hM hG))
        try simp only [Exit.inBlock, Exit.then]
        refine bodyPost_ret (res_vb2 Try.results29 rfl hM Try.underlying37 (av_info9 (sq_len a b c))) rfl ?_
        exact ⟨by rw [HT.out]; rfl, by rw [HG.out.1]; exact HB.out.grown hG (by have := HG.out; omega) (fun k hk => by injection hk with hk; have := HG.out; omega)⟩
end Go.Proofs.Ytdhcdogmbclhaaa.planes

/- Cards in an array that a slice shows: marked, and marks looked for again. -/
namespace Go.Proofs.Ytdhcdogmbclhaaa.planes
open Go.RowKit
open cards reg
set_option linter.unusedVariables false

theorem vb_rd {w : World} {g : Nat} {T : TypeId} {l : List Cd} (h : VB w g T (av l)) : Rd w (some ⟨g, 0, none⟩) (flat l) := Rd.of_block h (by simp)
theorem vb_slots {w : World} {g : Nat} {T : TypeId} {l : List Cd} (h : VB w g T (av l)) {i : Nat} {y : Cd} (hi : l[i]? = some y) :
    w.cell? ⟨g, i * 4, none⟩ = some (.int .i64 y.a) ∧ w.cell? ⟨g, i * 4 + 1, none⟩ = some (.int .i64 y.b) ∧ w.cell? ⟨g, i * 4 + 2, none⟩ = some (.int .i64 y.c) ∧ w.cell? ⟨g, i * 4 + 3, none⟩ = some (.int .i64 y.d) := by
  obtain ⟨h0, h1, h2, h3⟩ := flat_at l i y hi
  rw [Nat.mul_comm]
  exact ⟨h.at_ (by simpa using h0), h.at_ (by simpa using h1), h.at_ (by simpa using h2), h.at_ (by simpa using h3)⟩
theorem vb_store {w : World} {g : Nat} {T : TypeId} {l : List Cd} (h : VB w g T (av l)) {i : Nat} (hi : i < l.length) (x : Cd) :
    VB ((((w.setCell ⟨g, i * 4, none⟩ (.int .i64 x.a)).setCell ⟨g, i * 4 + 1, none⟩ (.int .i64 x.b)).setCell ⟨g, i * 4 + 2, none⟩ (.int .i64 x.c)).setCell ⟨g, i * 4 + 3, none⟩ (.int .i64 x.d)) g T (av (l.set i x)) := by
  have e : ∀ (xs : List Value) (j : Nat) (v : Value), xs.toArray.set! j v = (xs.set j v).toArray := fun xs j v => by simp
  have h1 := VB.set_ (v := .int .i64 x.a) h (e (flat l) (i * 4) _)
  have h2 := VB.set_ (v := .int .i64 x.b) h1 (e _ (i * 4 + 1) _)
  have h3 := VB.set_ (v := .int .i64 x.c) h2 (e _ (i * 4 + 2) _)
  have h4 := VB.set_ (v := .int .i64 x.d) h3 (e _ (i * 4 + 3) _)
  rw [flat_set l i x hi] at h4
  exact h4

set_option maxRecDepth 100000 in
set_option maxHeartbeats 4000000 in
theorem mark_arr (l : List Cd) (g c : Nat) (T : TypeId) (k0 n : Nat) (w : World) (hn : l.length = n) (hl : k0 + 4 * n ≤ 1000000000) (hv : VB w g T (av l)) :
    Calls Try.prog 20 #[.slice (some ⟨g, 0, none⟩) n c, .int .i64 k0] w fun e w' => e = .returned (.int .i64 (k0 + 4 * n : Nat)) ∧ VB w' g T (av (marked k0 n)) ∧ w.grownBy w' (some g) := by
  have HN := Lib.hid hn
  have HO := Lib.hid hv
  clear hn hv
  go_enter Try.func20, Try.ntmps20
  go_wp2_with fail
  go_loopw [1, 5, 6] (fun q i _ wr => ∃ k : Nat, k ≤ n ∧ i = .int .i64 k ∧ q = .int .i64 (k0 + 4 * k : Nat) ∧ Hid (VB wr g T (av (mks k0 l k))) ∧ Hid (w.grownBy wr (some g))) (fun _ i _ _ => n - (intOf i).toNat)
  case atStart => exact ⟨0, Nat.zero_le _, rfl, rfl, by rw [mks_zero]; exact HO, World.grownBy.refl _ _⟩
  case round =>
    clear HO
    obtain ⟨k, hk, rfl, rfl, HO, HB⟩ := hrel
    by_cases hlt : k < n
    · have hlen := mks_len (k := k0) HN.out hk
      obtain ⟨y, hy⟩ : ∃ y, (mks k0 l k)[k]? = some y := ⟨_, List.getElem?_eq_getElem (by omega)⟩
      obtain ⟨d0, d1, d2, d3⟩ := vb_slots HO.out hy
      have hf := HO.out.frozen
      have hg2 := HO.out.lt
      have b0 : (0 : Int) ≤ (k : Int) := by omega
      have b1 : (k : Int) < (n : Int) := by omega
      have HS := vb_store HO.out (i := k) (by omega) (mk k0 k)
      rw [mks_set HN.out hlt] at HS
      have HS := Lib.hid HS
      clear HO hlen hy
      go_wp2_with fail
      refine wp_loop_rounds 5 ?_
      repeat (rw [rounds_succ]; go_wp2_with fail)
      exact ⟨⟨k + 1, by omega, by go_num, by go_num, HS, grown_set (grown_set (grown_set (grown_set HB.out _ _) _ _) _ _) _ _⟩, by simp [intOf]; omega⟩
    · obtain rfl : k = n := by omega
      rw [mks_all HN.out] at HO
      go_wp2_with fail
      go_ret
      exact ⟨rfl, HO.out, HB.out⟩

set_option maxRecDepth 100000 in
set_option maxHeartbeats 4000000 in
theorem held_rd (p : Option Addr) (c k0 n : Nat) (w : World) (hl : k0 + 4 * n ≤ 1000000000) (hr : Rd w p (flat (marked k0 n))) :
    Calls Try.prog 21 #[.slice p n c, .int .i64 k0] w fun e w' => e = .returned (.int .i64 (k0 + 4 * n : Nat)) ∧ Below w.heap.size w w' := by
  have HR := Lib.hid hr
  clear hr
  go_enter Try.func21, Try.ntmps21
  go_wp2_with fail
  go_loopw [1, 5, 6] (fun q i _ wr => ∃ k : Nat, k ≤ n ∧ i = .int .i64 k ∧ q = .int .i64 (k0 + 4 * k : Nat) ∧ Hid (Below w.heap.size w wr)) (fun _ i _ _ => n - (intOf i).toNat)
  case atStart => exact ⟨0, Nat.zero_le _, rfl, rfl, Below.refl _ _⟩
  case round =>
    obtain ⟨k, hk, rfl, rfl, HB⟩ := hrel
    by_cases hlt : k < n
    · obtain ⟨b, o, x, rfl, hb, hx, d0, d1, d2, d3⟩ := (HR.out.below HB.out).card (k := k) (by rw [marked_len]; exact hlt)
      obtain rfl : mk k0 k = x := by rw [marked_at hlt] at hx; injection hx
      simp only [mk] at d0 d1 d2 d3
      have b0 : (0 : Int) ≤ (k : Int) := by omega
      have b1 : (k : Int) < (n : Int) := by omega
      clear hx
      go_wp2_with fail
      refine wp_loop_rounds 5 ?_
      repeat (rw [rounds_succ]; go_wp2_with fail)
      exact ⟨⟨k + 1, by omega, by go_num, by go_num, HB⟩, by simp [intOf]; omega⟩
    · obtain rfl : k = n := by omega
      go_wp2_with fail
      go_ret
      exact ⟨rfl, HB.out⟩

/-- The call has made a slice of the cards: a row of its own, or an array that the slice shows. -/
def OwnP (w : World) (B : Nat) (p : Option Addr) (n c : Nat) (l : List Cd) : Prop := l.length = n ∧ (Own w B (.slice p n c) l ∨ ∃ g T, p = some ⟨g, 0, none⟩ ∧ B ≤ g ∧ VB w g T (av l))
theorem OwnP.rd {w : World} {B n c : Nat} {p : Option Addr} {l : List Cd} (h : OwnP w B p n c l) : Rd w p (flat l) := by
  obtain ⟨_, h | ⟨g, T, rfl, _, h⟩⟩ := h
  · exact h.rd
  · exact vb_rd h
theorem OwnP.below {w w1 : World} {B n c : Nat} {p : Option Addr} {l : List Cd} (h : OwnP w B p n c l) (b : Below w.heap.size w w1) : OwnP w1 B p n c l := by
  obtain ⟨hn, h | ⟨g, T, e, hg, h⟩⟩ := h
  · exact ⟨hn, .inl (h.below b)⟩
  · exact ⟨hn, .inr ⟨g, T, e, hg, h.below b⟩⟩
theorem OwnP.base {w : World} {B B' n c : Nat} {p : Option Addr} {l : List Cd} (h : OwnP w B p n c l) (hB : B' ≤ B) : OwnP w B' p n c l := by
  obtain ⟨hn, h | ⟨g, T, e, hg, h⟩⟩ := h
  · exact ⟨hn, .inl (h.base hB)⟩
  · exact ⟨hn, .inr ⟨g, T, e, Nat.le_trans hB hg, h⟩⟩
theorem mark_P (l : List Cd) (p : Option Addr) (B c k0 n : Nat) (w : World) (hl : k0 + 4 * n ≤ 1000000000) (hB : B ≤ w.heap.size) (ho : OwnP w B p n c l) :
    Calls Try.prog 20 #[.slice p n c, .int .i64 k0] w fun e w' => e = .returned (.int .i64 (k0 + 4 * n : Nat)) ∧ Rd w' p (flat (marked k0 n)) ∧ w.grownBy w' (Value.slice p n c).ownBlock ∧ ∀ g, (Value.slice p n c).ownBlock = some g → B ≤ g := by
  obtain ⟨hn, h | ⟨g, T, rfl, hg, h⟩⟩ := ho
  · exact (mark_hand l (.slice p n c) B k0 n w hn hl hB h).mono fun e w' ⟨h1, h2, h3⟩ => by
      have h4 : Own w' B (.slice p (marked k0 n).length c) (marked k0 n) := by rw [marked_len]; exact h2
      exact ⟨h1, h4.rd, h3, fun g hg => (h.span g hg).1⟩
  · exact (mark_arr l g c T k0 n w hn hl h).mono fun e w' ⟨h1, h2, h3⟩ => ⟨h1, vb_rd h2, h3, fun k hk => by have hk : some g = some k := hk; injection hk with hk; omega⟩
end Go.Proofs.Ytdhcdogmbclhaaa.planes

