/- Merged texts: Zc, Gj, Gk, Gl. -/
import Derived.Test.YtcedbhgjabheaaaZt
import Derived.Test.YtcedbhgjabheaaaGd
import Derived.Test.YtcedbhgjabheaaaZb
import Derived.Test.YtcedbhgjabheaaaLs
/- The model's functions on lines: places in common, apart from others, lines with a place. -/
namespace Go.Proofs.Ytcedbhgjabheaaa.parting
open Go.RowKit
open cards maps
set_option linter.unusedVariables false

def rowC (v : Int) (y : A3) : Nat → Nat
  | 0 => 0
  | k + 1 => rowC v y k + bit (decide (v = A3.get y k))
def comC (x y : A3) : Nat → Nat
  | 0 => 0
  | i + 1 => comC x y i + rowC (A3.get x i) y 3
theorem comC_all (x y : A3) : comC x y 3 = com x y := by
  simp only [comC, rowC, A3.get, com]
  omega
theorem bit_le (b : Bool) : bit b ≤ 1 := by cases b <;> simp [bit]
theorem rowC_le (v : Int) (y : A3) : ∀ k, rowC v y k ≤ k
  | 0 => Nat.le_refl _
  | k + 1 => by have := rowC_le v y k; have := bit_le (decide (v = A3.get y k)); simp only [rowC]; omega
theorem comC_le (x y : A3) : ∀ i, comC x y i ≤ 3 * i
  | 0 => Nat.le_refl _
  | i + 1 => by have := comC_le x y i; have := rowC_le (A3.get x i) y 3; simp only [comC]; omega

set_option maxRecDepth 100000 in
set_option maxHeartbeats 4000000 in
theorem l7_common (x y : A3) (w : World) :
    Calls Try.prog 67 #[x.val, y.val] w fun e w' => e = .returned (.int .i64 (com x y : Nat)) ∧ Below w.heap.size w w' := by
  go_enter Try.func67, Try.ntmps67
  go_wp2_with fail
  have K0 : Hid (TBox ((w.alloc x.obj).alloc y.obj) w.heap.size x) := Lib.hid (TBox.alloc (TBox.newAt rfl rfl) _)
  have K1 : Hid (TBox ((w.alloc x.obj).alloc y.obj) (w.heap.size + 1) y) := Lib.hid (TBox.newAt (by simp) rfl)
  have HB : Hid (Below w.heap.size w ((w.alloc x.obj).alloc y.obj)) := Lib.hid (by repeat (first | with_reducible exact Below.refl _ _ | with_reducible exact HB.out | with_reducible apply Below.drew | with_reducible apply bdN | with_reducible refine Below.alloc ?_ (by first | exact Nat.le_refl _ | with_reducible exact HB.out.size | omega | (simp; done) | (simp; omega) | (have := HB.out.size; simp at *; omega)) _ | with_reducible refine Below.setCell ?_ (by first | exact Nat.le_refl _ | with_reducible exact HB.out.size | omega | (simp; done) | (simp; omega) | (have := HB.out.size; simp at *; omega)) _))
  obtain ⟨W, hW⟩ : ∃ W, (w.alloc x.obj).alloc y.obj = W := ⟨_, rfl⟩
  rw [hW] at K0 K1 HB ⊢
  clear hW
  go_loopw [5, 6, 7] (fun m i _ wr => ∃ k : Nat, k ≤ 3 ∧ i = .int .i64 k ∧ m = .int .i64 (comC x y k : Nat) ∧ Hid (Below w.heap.size w wr) ∧ Hid (TBox wr w.heap.size x) ∧ Hid (TBox wr (w.heap.size + 1) y)) (fun _ i _ _ => 3 - (intOf i).toNat)
  case atStart => exact ⟨0, by omega, rfl, rfl, HB, K0, K1⟩
  case round =>
    clear HB K0 K1
    obtain ⟨k, hk, rfl, rfl, HB, K0, K1⟩ := hrel
    by_cases hlt : k < 3
    · have hc := comC_le x y k
      go_wp2_with fail
      go_loopw [5, 7] (fun m i wr => ∃ j : Nat, j ≤ 3 ∧ i = .int .i64 j ∧ m = .int .i64 (comC x y k + rowC (A3.get x k) y j : Nat) ∧ Hid (Below w.heap.size w wr) ∧ Hid (TBox wr w.heap.size x) ∧ Hid (TBox wr (w.heap.size + 1) y)) (fun _ i _ => 3 - (intOf i).toNat)
      case atStart => exact ⟨0, by omega, rfl, rfl, HB, K0, K1⟩
      case round =>
        clear HB K0 K1
        obtain ⟨j, hj, rfl, rfl, HB, K0, K1⟩ := hrel
        by_cases hjt : j < 3
        · have hr := rowC_le (A3.get x k) y j
          have c0 := K0.out.get hlt
          have c1 := K1.out.get hjt
          have b0 : (0 : Int) ≤ (k : Int) := by omega
          have b1 : (k : Int) < 3 := by omega
          have b2 : (0 : Int) ≤ (j : Int) := by omega
          have b3 : (j : Int) < 3 := by omega
          have HE : Hid (rowC (A3.get x k) y (j + 1) = rowC (A3.get x k) y j + bit (decide (A3.get x k = A3.get y j))) := Lib.hid rfl
          obtain ⟨u, hu⟩ : ∃ u, A3.get x k = u := ⟨_, rfl⟩
          obtain ⟨v, hv⟩ : ∃ v, A3.get y j = v := ⟨_, rfl⟩
          rw [hu] at c0 HE hr
          rw [hv] at c1 HE
          obtain ⟨s, hs⟩ : ∃ s, comC x y k + rowC u y j = s := ⟨_, rfl⟩
          have HU := Lib.hid hu
          have hss : s ≤ 20 := by omega
          rw [hu, hs]
          have HSs := Lib.hid hs
          clear hu hv hs hc hr
          by_cases he : u = v
          · have HE2 := Lib.hid (show comC x y k + rowC u y (j + 1) = s + 1 by rw [HE.out, ← HSs.out]; simp [bit, he]; omega)
            have hee : (u == v) = true := by simp [he]
            clear he
            go_wp2_with fail
            have qc0 := fun d os => cell_regrown c0 d os
            have qc1 := fun d os => cell_regrown c1 d os
            refine wp_region_quiet_below (by kernel_rfl) (by kernel_rfl) ?_
            repeat (first | go_big_quiet_step ((fail)) | quiet_step ((fail)))
            refine wpQuiet_nil ?_
            intro w2 hw2
            have b : Below wr.heap.size wr w2 := by obtain ⟨r, hr⟩ := hw2; rw [hr]; exact below_regrown _ _ _
            clear hw2 qc0 qc1
            have Sw2 := Lib.hid b.size
            have HB := Lib.hid (chain0 (w := w) (by repeat (first | with_reducible exact Below.refl _ _ | with_reducible exact HB.out | with_reducible apply Below.drew | with_reducible apply bdN | with_reducible refine Below.alloc ?_ (by first | exact Nat.le_refl _ | with_reducible exact HB.out.size | omega | (simp; done) | (simp; omega) | (have := HB.out.size; simp at *; omega)) _ | with_reducible refine Below.setCell ?_ (by first | exact Nat.le_refl _ | with_reducible exact HB.out.size | omega | (simp; done) | (simp; omega) | (have := HB.out.size; simp at *; omega)) _)) b)
            have K0 := Lib.hid (TBox.below (by repeat (first | with_reducible exact K0.out | with_reducible apply TBox.drewN | with_reducible apply TBox.drew | with_reducible apply TBox.alloc)) b)
            have K1 := Lib.hid (TBox.below (by repeat (first | with_reducible exact K1.out | with_reducible apply TBox.drewN | with_reducible apply TBox.drew | with_reducible apply TBox.alloc)) b)
            clear b
            clear c0 c1
            go_wp2_with fail
            go_roundw
            case rel => exact ⟨j + 1, by omega, by go_num, by rw [HE2.out]; go_num, HB, K0, K1⟩
            case measure => simp [intOf]; omega
          · have HE2 := Lib.hid (show comC x y k + rowC u y (j + 1) = s by rw [HE.out, ← HSs.out]; simp [bit, he])
            have hne : (u == v) = false := by simp [he]
            clear he
            go_wp2_with fail
            have qc0 := fun d os => cell_regrown c0 d os
            have qc1 := fun d os => cell_regrown c1 d os
            refine wp_region_quiet_below (by kernel_rfl) (by kernel_rfl) ?_
            repeat (first | go_big_quiet_step ((fail)) | quiet_step ((fail)))
            refine wpQuiet_nil ?_
            intro w2 hw2
            have b : Below wr.heap.size wr w2 := by obtain ⟨r, hr⟩ := hw2; rw [hr]; exact below_regrown _ _ _
            clear hw2 qc0 qc1
            have Sw2 := Lib.hid b.size
            have HB := Lib.hid (chain0 (w := w) (by repeat (first | with_reducible exact Below.refl _ _ | with_reducible exact HB.out | with_reducible apply Below.drew | with_reducible apply bdN | with_reducible refine Below.alloc ?_ (by first | exact Nat.le_refl _ | with_reducible exact HB.out.size | omega | (simp; done) | (simp; omega) | (have := HB.out.size; simp at *; omega)) _ | with_reducible refine Below.setCell ?_ (by first | exact Nat.le_refl _ | with_reducible exact HB.out.size | omega | (simp; done) | (simp; omega) | (have := HB.out.size; simp at *; omega)) _)) b)
            have K0 := Lib.hid (TBox.below (by repeat (first | with_reducible exact K0.out | with_reducible apply TBox.drewN | with_reducible apply TBox.drew | with_reducible apply TBox.alloc)) b)
            have K1 := Lib.hid (TBox.below (by repeat (first | with_reducible exact K1.out | with_reducible apply TBox.drewN | with_reducible apply TBox.drew | with_reducible apply TBox.alloc)) b)
            clear b
            clear c0 c1
            go_wp2_with fail
            go_roundw
            case rel => exact ⟨j + 1, by omega, by go_num, by rw [HE2.out], HB, K0, K1⟩
            case measure => simp [intOf]; omega
        · obtain rfl : j = 3 := by omega
          go_wp2_with fail
          go_roundw
          case rel => exact ⟨k + 1, by omega, by go_num, rfl, HB, K0, K1⟩
          case measure => simp [intOf]; omega
    · obtain rfl : k = 3 := by omega
      have HC := Lib.hid (comC_all x y)
      go_wp2_with fail
      go_ret
      exact ⟨ret_int (by rw [HC.out]), HB.out⟩
end Go.Proofs.Ytcedbhgjabheaaa.parting

/- Lines that stay when another one is taken: the program's. -/
namespace Go.Proofs.Ytcedbhgjabheaaa.chance
open Go.RowKit
open cards reg parting
set_option linter.unusedVariables false

/-- Is there a line that has no card of this one? -/
def stays (L : List A3) (t : A3) : Bool := L.any (fun x => free [t] x)
/-- How many lines leave one. -/
def stN (L : List A3) : Nat := (L.filter (stays L)).length
theorem stN_le (L : List A3) : stN L ≤ L.length := List.length_filter_le _ _
theorem free_com (t x : A3) : free [t] x = decide (com t x = 0) := by
  have h := com_meet t x
  have e : free [t] x = !meet t x := by simp [free]
  rw [e, ← h]
  by_cases h0 : com t x = 0
  · simp [h0]
  · simp [h0]; omega
noncomputable def stR (l : List Cd) : (Int × Int) × Bool := if handB l = true ∧ 0 < (allL l l.length).length then (frac (stN (allL l l.length)) (allL l l.length).length, true) else ((0, 0), false)

set_option maxRecDepth 100000 in
set_option maxHeartbeats 2000000 in
theorem stays_fun (t x : A3) (g : Nat) (w : World) (hg : TBox w g t) :
    Calls Try.prog 100 #[x.val, .pointer (some ⟨g, 0, none⟩)] w fun e w' => e = .returned (.bool (free [t] x)) ∧ Below w.heap.size w w' := by
  have K0 : Hid (TBox (w.alloc x.obj) w.heap.size x) := Lib.hid (TBox.newAt rfl rfl)
  obtain ⟨k0a, k0b, k0c, _⟩ := K0.out.cell
  have KG := Lib.hid (hg.alloc x.obj)
  obtain ⟨kga, kgb, kgc, _⟩ := KG.out.cell
  have K1 := Lib.hid (K0.out.alloc t.obj)
  obtain ⟨k1a, k1b, k1c, _⟩ := K1.out.cell
  have HB : Hid (Below w.heap.size w ((w.alloc x.obj).alloc t.obj)) := Lib.hid (by
    have b1 := (Below.refl w.heap.size w).alloc (Nat.le_refl _) x.obj
    exact b1.alloc b1.size t.obj)
  have HRd : Hid (Rd ((w.alloc x.obj).alloc t.obj) (some ⟨(w.alloc x.obj).heap.size, 0, none⟩) (A3.flat [t])) := Lib.hid (Rd.newAt rfl rfl)
  have hsz : (w.alloc x.obj).heap.size = w.heap.size + 1 := by simp
  rw [hsz] at HRd
  have HA := Lib.hid (fun w hr => is_apart [t] x (some ⟨w.heap.size + 1, 0, none⟩) 1 1 w rfl (by omega) hr)
  clear hg hsz
  go_enter Try.func100, Try.ntmps100
  go_wp2_with fail
  refine (is_apart [t] x (some ⟨w.heap.size + 1, 0, none⟩) 1 1 _ rfl (by omega) HRd.out).mono ?_
  rintro e w1 ⟨rfl, b⟩
  go_wp2_with fail
  go_ret
  exact ⟨rfl, HB.out.trans (b.mono HB.out.size)⟩

set_option maxRecDepth 100000 in
set_option maxHeartbeats 2000000 in
theorem stays_behind (L : List A3) (t : A3) (p : Option Addr) (n c : Nat) (w : World) (hn : L.length = n) (hl : n ≤ 1000000000) (hr : Rd w p (A3.flat L)) :
    Calls Try.prog 68 #[.slice p n c, t.val] w fun e w' => e = .returned (.bool (stays L t)) ∧ Below w.heap.size w w' := by
  have K0 : Hid (TBox (w.alloc t.obj) w.heap.size t) := Lib.hid (TBox.newAt rfl rfl)
  have HB : Hid (Below w.heap.size w (w.alloc t.obj)) := Lib.hid ((Below.refl _ _).alloc (Nat.le_refl _) _)
  have HC := Lib.hid (contains_fun3 100 (.pointer (some ⟨w.heap.size, 0, none⟩)) (fun x => free [t] x) L p n c (w.alloc t.obj) hn hl (hr.alloc _) (fun args w => by kernel_rfl) (fun x w' hb => stays_fun t x w.heap.size w' (K0.out.under K0.out.lt hb)))
  clear hr hn
  go_enter Try.func68, Try.ntmps68
  go_wp2_with fail
  refine HC.out.mono ?_
  rintro e w1 ⟨rfl, b⟩
  go_wp2_with fail
  go_ret
  exact ⟨rfl, HB.out.trans (b.mono HB.out.size)⟩
end Go.Proofs.Ytcedbhgjabheaaa.chance

/- ChanceStays: the program's and the model's. -/
namespace Go.Proofs.Ytcedbhgjabheaaa.chance
open Go.RowKit
open cards reg parting
set_option linter.unusedVariables false

/-- How many of the first k lines leave one. -/
def stK (L : List A3) (k : Nat) : Nat := ((L.take k).filter (stays L)).length
theorem stK_le (L : List A3) (k : Nat) : stK L k ≤ k := Nat.le_trans (List.length_filter_le _ _) (by rw [List.length_take]; omega)
theorem stK_all (L : List A3) : stK L L.length = stN L := by unfold stK stN; rw [List.take_length]
theorem stK_yes {L : List A3} {k : Nat} {x : A3} (hx : L[k]? = some x) (h : stays L x = true) : stK L (k + 1) = stK L k + 1 := by
  unfold stK
  rw [List.take_add_one, hx, List.filter_append, List.length_append]
  simp [h]
theorem stK_no {L : List A3} {k : Nat} {x : A3} (hx : L[k]? = some x) (h : stays L x = false) : stK L (k + 1) = stK L k := by
  unfold stK
  rw [List.take_add_one, hx, List.filter_append, List.length_append]
  simp [h]

set_option maxRecDepth 100000 in
set_option maxHeartbeats 4000000 in
theorem impl_st (l : List Cd) (p : Option Addr) (n c : Nat) (w : World) (hn : l.length = n) (hl : n ≤ 1000000000) (hr : Rd w p (flat l)) (hcp : n ≤ c) :
    Calls Try.prog 33 #[.slice p n c] w fun e w' => e = .returned (.tuple #[.agg (fv (stR l).1), .bool (stR l).2]) ∧ Below w.heap.size w w' := by
  have K0 : Hid (VB (w.alloc (.cells (fv (0, 0)) 24)) w.heap.size 24 (fv (0, 0))) := Lib.hid (VB.newAt rfl rfl)
  have HN := Lib.hid hn
  have HR := Lib.hid hr
  clear hn hr
  have HLI := fun w (hr : Rd w p (flat l)) => impl_lin l p n c w HN.out hl hr
  cases hh : handB l
  · have HT : Hid (stR l = ((0, 0), false)) := Lib.hid (by unfold stR; rw [if_neg (by simp [hh])])
    rw [show linR l = ([], false) by unfold linR; rw [if_neg (by simp [hh])]] at HLI
    have HLI := Lib.hid HLI
    clear hh
    go_enter Try.func33, Try.ntmps33
    go_wp2_with fail
    refine ((HLI.out _ (by repeat (first | with_reducible exact HR.out | with_reducible apply Rd.drewN | with_reducible apply Rd.drew | with_reducible apply Rd.alloc)))).mono ?_
    rintro e w1 ⟨u, rfl, hu, b⟩
    have Sw1 := Lib.hid b.size
    have HB := Lib.hid (chain0 (w := w) (by repeat (first | with_reducible exact Below.refl _ _ | with_reducible exact HB.out | with_reducible apply Below.drew | with_reducible apply bdN | with_reducible refine Below.alloc ?_ (by first | exact Nat.le_refl _ | with_reducible exact HB.out.size | omega | (simp; done) | (simp; omega) | (have := HB.out.size; simp at *; omega)) _ | with_reducible refine Below.setCell ?_ (by first | exact Nat.le_refl _ | with_reducible exact HB.out.size | omega | (simp; done) | (simp; omega) | (have := HB.out.size; simp at *; omega)) _)) b)
    have HR := Lib.hid (Rd.below (by repeat (first | with_reducible exact HR.out | with_reducible apply Rd.drewN | with_reducible apply Rd.drew | with_reducible apply Rd.alloc)) b)
    have K0 := Lib.hid (VB.below (by repeat (first | with_reducible exact K0.out | with_reducible apply VB.drewN | with_reducible apply VB.drew | with_reducible apply VB.alloc)) b)
    clear b
    go_wp2_with ((with_reducible refine store_a2 rfl _ _ rfl K0.out ?_ (0, 0) ?_ ?_); rfl; rfl; intro w2 hM hG)
    try simp only [Exit.inBlock, Exit.then]
    refine bodyPost_ret (res_vb2 Try.results33 rfl hM Try.underlying24 (a2_info rfl)) rfl ?_
    exact ⟨by rw [HT.out]; rfl, HB.out.grown hG HB.out.size (fun k hk => by injection hk with hk; omega)⟩
  · have hHd := handB_true.1 hh
    have h27 : n ≤ 27 := by have := hHd.1; have := HN.out; omega
    rw [show linR l = (allL l l.length, true) by unfold linR; rw [if_pos hh]] at HLI
    have hLl := allL_len l l.length
    have hL2 : l.length * l.length ≤ 27 * 27 := Nat.mul_le_mul hHd.1 hHd.1
    have hst : stR l = if 0 < (allL l l.length).length then (frac (stN (allL l l.length)) (allL l l.length).length, true) else ((0, 0), false) := by
      unfold stR
      by_cases h : 0 < (allL l l.length).length
      · rw [if_pos ⟨hh, h⟩, if_pos h]
      · rw [if_neg (fun hc => h hc.2), if_neg h]
    generalize allL l l.length = L at *
    obtain ⟨m, hm⟩ : ∃ m, L.length = m := ⟨_, rfl⟩
    have HMl := Lib.hid hm
    rw [hm] at hst hLl
    have HLI := Lib.hid HLI
    by_cases h0 : 0 < m
    · have HST : Hid (stR l = (frac (stN L) m, true)) := Lib.hid (by rw [hst, if_pos h0])
      have hle := stN_le L
      have hfr := fun w => fraction_ (stN L) m w h0 (by omega) (by omega)
      obtain ⟨fr, hf⟩ : ∃ fr, frac (stN L) m = fr := ⟨_, rfl⟩
      rw [hf] at hfr
      have HFr := Lib.hid hfr
      have HST2 : Hid (stR l = (fr, true)) := Lib.hid (by rw [HST.out, hf])
      have hm0 : (0 : Int) < (m : Int) := by omega
      have hm1 : ((m : Int) == 0) = false := by simp only [beq_eq_false_iff_ne, ne_eq]; omega
      have hm2 : ¬ m = 0 := by omega
      have hm3 : m ≤ 729 := by omega
      clear hh hHd hLl hL2 hst hm hle hfr hf HST h0
      go_enter Try.func33, Try.ntmps33
      go_wp2_with fail
      refine ((HLI.out _ (by repeat (first | with_reducible exact HR.out | with_reducible apply Rd.drewN | with_reducible apply Rd.drew | with_reducible apply Rd.alloc)))).mono ?_
      rintro e w1 ⟨u, rfl, hu, b⟩
      have Sw1 := Lib.hid b.size
      have HB := Lib.hid (chain0 (w := w) (by repeat (first | with_reducible exact Below.refl _ _ | with_reducible exact HB.out | with_reducible apply Below.drew | with_reducible apply bdN | with_reducible refine Below.alloc ?_ (by first | exact Nat.le_refl _ | with_reducible exact HB.out.size | omega | (simp; done) | (simp; omega) | (have := HB.out.size; simp at *; omega)) _ | with_reducible refine Below.setCell ?_ (by first | exact Nat.le_refl _ | with_reducible exact HB.out.size | omega | (simp; done) | (simp; omega) | (have := HB.out.size; simp at *; omega)) _)) b)
      have HR := Lib.hid (Rd.below (by repeat (first | with_reducible exact HR.out | with_reducible apply Rd.drewN | with_reducible apply Rd.drew | with_reducible apply Rd.alloc)) b)
      have K0 := Lib.hid (VB.below (by repeat (first | with_reducible exact K0.out | with_reducible apply VB.drewN | with_reducible apply VB.drew | with_reducible apply VB.alloc)) b)
      clear b
      have HO : Hid (OwnA3 w1 w.heap.size u L) := Lib.hid (hu.base (by simp))
      clear hu
      obtain ⟨pu, cu, rfl, hcu, _, _⟩ := HO.out.form
      rw [HMl.out] at HO hcu ⊢
      go_wp2_with fail
      go_loopw [6, 24] (fun s i wr => ∃ (k : Nat) (S : Int), k ≤ m ∧ i = .int .i64 k ∧ s = .int .i64 S ∧ Hid (S = (stK L k : Nat)) ∧ Hid (OwnA3 wr w.heap.size (.slice pu m cu) L) ∧ Hid (Below w.heap.size w wr) ∧ Hid (VB wr w.heap.size 24 (fv (0, 0)))) (fun _ i _ => m - (intOf i).toNat)
      case atStart => exact ⟨0, 0, Nat.zero_le _, rfl, rfl, Lib.hid (by simp [stK]), HO, HB, K0⟩
      case round =>
        clear HB HO K0
        obtain ⟨k, S, hk, rfl, rfl, HSk, HO, HB, K0⟩ := hrel
        by_cases hlt : k < m
        · obtain ⟨b, o, x, rfl, hb, hx, c0, c1, c2⟩ := (OwnA3.rd HO.out).aA3 (k := k) (by rw [HMl.out]; exact hlt)
          have HX := Lib.hid hx
          have m0 : (0 : Int) ≤ (k : Int) := by omega
          have m1 : (k : Int) < (m : Int) := by omega
          have hsk := stK_le L k
          have hS := HSk.out
          have s0 : 0 ≤ S := by omega
          have s1 : S ≤ 729 := by omega
          have HSB := fun w' (hr : Rd w' (some ⟨b, o, none⟩) (A3.flat L)) => stays_behind L x (some ⟨b, o, none⟩) m cu w' HMl.out (by omega) hr
          clear hx hsk hS
          cases hs : stays L x
          · have HE : Hid (S = (stK L (k + 1) : Nat)) := Lib.hid (by rw [HSk.out, stK_no HX.out hs])
            rw [hs] at HSB
            have HSB := Lib.hid HSB
            clear hs
            go_wp2_with fail
            refine ((HSB.out _ ((OwnA3.rd HO.out).alloc _))).mono ?_
            rintro e w4 ⟨rfl, b⟩
            have Sw4 := Lib.hid b.size
            have HB := Lib.hid (chain0 (w := w) (by repeat (first | with_reducible exact Below.refl _ _ | with_reducible exact HB.out | with_reducible apply Below.drew | with_reducible apply bdN | with_reducible refine Below.alloc ?_ (by first | exact Nat.le_refl _ | with_reducible exact HB.out.size | omega | (simp; done) | (simp; omega) | (have := HB.out.size; simp at *; omega)) _ | with_reducible refine Below.setCell ?_ (by first | exact Nat.le_refl _ | with_reducible exact HB.out.size | omega | (simp; done) | (simp; omega) | (have := HB.out.size; simp at *; omega)) _)) b)
            have HO := Lib.hid (OwnA3.below (by repeat (first | with_reducible exact HO.out | with_reducible apply OwnA3.drewN | with_reducible apply OwnA3.drew | with_reducible apply OwnA3.alloc)) b)
            have K0 := Lib.hid (VB.below (by repeat (first | with_reducible exact K0.out | with_reducible apply VB.drewN | with_reducible apply VB.drew | with_reducible apply VB.alloc)) b)
            have K1 : Hid (TBox _ (wr.heap.size) (x)) := Lib.hid (TBox.below (by repeat (first | with_reducible exact K1.out | with_reducible apply TBox.drewN | with_reducible apply TBox.drew | (with_reducible refine TBox.newAt ?_ ?_ <;> first | (simp; done) | rfl) | with_reducible apply TBox.alloc)) b)
            try clear k1a k1b k1c k1d k1z
            have k1z := K1.out.lt
            obtain ⟨k1a, k1b, k1c, k1d⟩ := K1.out.cell
            clear b
            go_wp2_with fail
            go_roundw
            case rel => exact ⟨k + 1, S, by omega, by go_num, rfl, HE, HO, HB, K0⟩
            case measure => simp [intOf]; omega
          · have HE : Hid (S + 1 = (stK L (k + 1) : Nat)) := Lib.hid (by rw [HSk.out, stK_yes HX.out hs]; rfl)
            rw [hs] at HSB
            have HSB := Lib.hid HSB
            clear hs
            go_wp2_with fail
            refine ((HSB.out _ ((OwnA3.rd HO.out).alloc _))).mono ?_
            rintro e w4 ⟨rfl, b⟩
            have Sw4 := Lib.hid b.size
            have HB := Lib.hid (chain0 (w := w) (by repeat (first | with_reducible exact Below.refl _ _ | with_reducible exact HB.out | with_reducible apply Below.drew | with_reducible apply bdN | with_reducible refine Below.alloc ?_ (by first | exact Nat.le_refl _ | with_reducible exact HB.out.size | omega | (simp; done) | (simp; omega) | (have := HB.out.size; simp at *; omega)) _ | with_reducible refine Below.setCell ?_ (by first | exact Nat.le_refl _ | with_reducible exact HB.out.size | omega | (simp; done) | (simp; omega) | (have := HB.out.size; simp at *; omega)) _)) b)
            have HO := Lib.hid (OwnA3.below (by repeat (first | with_reducible exact HO.out | with_reducible apply OwnA3.drewN | with_reducible apply OwnA3.drew | with_reducible apply OwnA3.alloc)) b)
            have K0 := Lib.hid (VB.below (by repeat (first | with_reducible exact K0.out | with_reducible apply VB.drewN | with_reducible apply VB.drew | with_reducible apply VB.alloc)) b)
            have K1 : Hid (TBox _ (wr.heap.size) (x)) := Lib.hid (TBox.below (by repeat (first | with_reducible exact K1.out | with_reducible apply TBox.drewN | with_reducible apply TBox.drew | (with_reducible refine TBox.newAt ?_ ?_ <;> first | (simp; done) | rfl) | with_reducible apply TBox.alloc)) b)
            try clear k1a k1b k1c k1d k1z
            have k1z := K1.out.lt
            obtain ⟨k1a, k1b, k1c, k1d⟩ := K1.out.cell
            clear b
            go_wp2_with fail
            go_roundw
            case rel => exact ⟨k + 1, S + 1, by omega, by go_num, rfl, HE, HO, HB, K0⟩
            case measure => simp [intOf]; omega
        · have hkm : k = m := by omega
          subst hkm
          have hS : S = (stN L : Nat) := by rw [HSk.out, ← HMl.out, stK_all]
          rw [← hS] at HFr
          clear hS
          go_wp2_with fail
          refine ((HFr.out _)).mono ?_
          rintro e w5 ⟨rfl, b⟩
          have Sw5 := Lib.hid b.size
          have HB := Lib.hid (chain0 (w := w) (by repeat (first | with_reducible exact Below.refl _ _ | with_reducible exact HB.out | with_reducible apply Below.drew | with_reducible apply bdN | with_reducible refine Below.alloc ?_ (by first | exact Nat.le_refl _ | with_reducible exact HB.out.size | omega | (simp; done) | (simp; omega) | (have := HB.out.size; simp at *; omega)) _ | with_reducible refine Below.setCell ?_ (by first | exact Nat.le_refl _ | with_reducible exact HB.out.size | omega | (simp; done) | (simp; omega) | (have := HB.out.size; simp at *; omega)) _)) b)
          have K0 := Lib.hid (VB.below (by repeat (first | with_reducible exact K0.out | with_reducible apply VB.drewN | with_reducible apply VB.drew | with_reducible apply VB.alloc)) b)
          clear b
          go_wp2_with ((with_reducible refine store_a2 rfl _ _ rfl K0.out ?_ fr ?_ ?_); rfl; rfl; intro w6 hM hG)
          try simp only [Exit.inBlock, Exit.then]
          refine bodyPost_ret (res_vb2 Try.results33 rfl hM Try.underlying24 (a2_info rfl)) rfl ?_
          exact ⟨by rw [HST2.out]; rfl, HB.out.grown hG HB.out.size (fun k hk => by injection hk with hk; omega)⟩
    · have HST : Hid (stR l = ((0, 0), false)) := Lib.hid (by rw [hst, if_neg h0])
      have hm0 : m = 0 := by omega
      subst hm0
      clear hh hHd hLl hL2 hst hm h0
      go_enter Try.func33, Try.ntmps33
      go_wp2_with fail
      refine ((HLI.out _ (by repeat (first | with_reducible exact HR.out | with_reducible apply Rd.drewN | with_reducible apply Rd.drew | with_reducible apply Rd.alloc)))).mono ?_
      rintro e w1 ⟨u, rfl, hu, b⟩
      have Sw1 := Lib.hid b.size
      have HB := Lib.hid (chain0 (w := w) (by repeat (first | with_reducible exact Below.refl _ _ | with_reducible exact HB.out | with_reducible apply Below.drew | with_reducible apply bdN | with_reducible refine Below.alloc ?_ (by first | exact Nat.le_refl _ | with_reducible exact HB.out.size | omega | (simp; done) | (simp; omega) | (have := HB.out.size; simp at *; omega)) _ | with_reducible refine Below.setCell ?_ (by first | exact Nat.le_refl _ | with_reducible exact HB.out.size | omega | (simp; done) | (simp; omega) | (have := HB.out.size; simp at *; omega)) _)) b)
      have HR := Lib.hid (Rd.below (by repeat (first | with_reducible exact HR.out | with_reducible apply Rd.drewN | with_reducible apply Rd.drew | with_reducible apply Rd.alloc)) b)
      have K0 := Lib.hid (VB.below (by repeat (first | with_reducible exact K0.out | with_reducible apply VB.drewN | with_reducible apply VB.drew | with_reducible apply VB.alloc)) b)
      clear b
      obtain ⟨pu, cu, rfl, hcu, _, _⟩ := hu.form
      rw [HMl.out]
      clear hu
      go_wp2_with ((with_reducible refine store_a2 rfl _ _ rfl K0.out ?_ (0, 0) ?_ ?_); rfl; rfl; intro w2 hM hG)
      try simp only [Exit.inBlock, Exit.then]
      refine bodyPost_ret (res_vb2 Try.results33 rfl hM Try.underlying24 (a2_info rfl)) rfl ?_
      exact ⟨by rw [HST.out]; rfl, HB.out.grown hG HB.out.size (fun k hk => by injection hk with hk; omega)⟩
end Go.Proofs.Ytcedbhgjabheaaa.chance

/- ChanceStays: the model's. -/
namespace Go.Proofs.Ytcedbhgjabheaaa.chance
open Go.RowKit
open cards reg parting
set_option linter.unusedVariables false


theorem stays_yes {L : List A3} {t x : A3} {j : Nat} (hx : L[j]? = some x) (h : com t x = 0) : stays L t = true := List.any_eq_true.2 ⟨x, List.mem_of_getElem? hx, by rw [free_com]; exact decide_eq_true h⟩
theorem stays_no {L : List A3} {t : A3} (h : ∀ (j : Nat) (x : A3), j < L.length → L[j]? = some x → com t x ≠ 0) : stays L t = false := by
  cases hs : stays L t
  · rfl
  · obtain ⟨x, hx, hf⟩ := List.any_eq_true.1 hs
    obtain ⟨j, hj⟩ := List.mem_iff_getElem?.1 hx
    rw [free_com] at hf
    exact absurd (of_decide_eq_true hf) (h j x (List.getElem?_eq_some_iff.1 hj).1 hj)

set_option maxRecDepth 100000 in
set_option maxHeartbeats 4000000 in
theorem spec_st (l : List Cd) (p : Option Addr) (n c : Nat) (w : World) (hn : l.length = n) (hl : n ≤ 1000000000) (hr : Rd w p (flat l)) (hcp : n ≤ c) :
    Calls Try.prog 32 #[.slice p n c] w fun e w' => e = .returned (.tuple #[.agg (fv (stR l).1), .bool (stR l).2]) ∧ Below w.heap.size w w' := by
  have K0 : Hid (VB (w.alloc (.cells (fv (0, 0)) 24)) w.heap.size 24 (fv (0, 0))) := Lib.hid (VB.newAt rfl rfl)
  have HN := Lib.hid hn
  have HR := Lib.hid hr
  clear hn hr
  cases hh : handB l
  · have HT : Hid (stR l = ((0, 0), false)) := Lib.hid (by unfold stR; rw [if_neg (by simp [hh])])
    have HH := Lib.hid hh
    clear hh
    go_enter Try.func32, Try.ntmps32
    go_wp2_with fail
    refine ((l2_hand l p n c _ HN.out hl (by repeat (first | with_reducible exact HR.out | with_reducible apply Rd.drewN | with_reducible apply Rd.drew | with_reducible apply Rd.alloc)))).mono ?_
    rintro e w1 ⟨rfl, b⟩
    have Sw1 := Lib.hid b.size
    have HB := Lib.hid (chain0 (w := w) (by repeat (first | with_reducible exact Below.refl _ _ | with_reducible exact HB.out | with_reducible apply Below.drew | with_reducible apply bdN | with_reducible refine Below.alloc ?_ (by first | exact Nat.le_refl _ | with_reducible exact HB.out.size | omega | (simp; done) | (simp; omega) | (have := HB.out.size; simp at *; omega)) _ | with_reducible refine Below.setCell ?_ (by first | exact Nat.le_refl _ | with_reducible exact HB.out.size | omega | (simp; done) | (simp; omega) | (have := HB.out.size; simp at *; omega)) _)) b)
    have HR := Lib.hid (Rd.below (by repeat (first | with_reducible exact HR.out | with_reducible apply Rd.drewN | with_reducible apply Rd.drew | with_reducible apply Rd.alloc)) b)
    have K0 := Lib.hid (VB.below (by repeat (first | with_reducible exact K0.out | with_reducible apply VB.drewN | with_reducible apply VB.drew | with_reducible apply VB.alloc)) b)
    clear b
    rw [HH.out]
    go_wp2_with ((with_reducible refine store_a2 rfl _ _ rfl K0.out ?_ (0, 0) ?_ ?_); rfl; rfl; intro w2 hM hG)
    try simp only [Exit.inBlock, Exit.then]
    refine bodyPost_ret (res_vb2 Try.results32 rfl hM Try.underlying24 (a2_info rfl)) rfl ?_
    exact ⟨by rw [HT.out]; rfl, HB.out.grown hG HB.out.size (fun k hk => by injection hk with hk; omega)⟩
  · have hHd := handB_true.1 hh
    have h27 : n ≤ 27 := by have := hHd.1; have := HN.out; omega
    have HH := Lib.hid hh
    have HLI := fun w (hr : Rd w p (flat l)) => l2_lines l p n c w HN.out h27 hr hHd.2.1 hHd.2.2
    have hLl := allL_len l l.length
    have hL2 : l.length * l.length ≤ 27 * 27 := Nat.mul_le_mul hHd.1 hHd.1
    have hst : stR l = if 0 < (allL l l.length).length then (frac (stN (allL l l.length)) (allL l l.length).length, true) else ((0, 0), false) := by
      unfold stR
      by_cases h : 0 < (allL l l.length).length
      · rw [if_pos ⟨hh, h⟩, if_pos h]
      · rw [if_neg (fun hc => h hc.2), if_neg h]
    rw [show allL l n = allL l l.length by rw [HN.out]] at HLI
    generalize allL l l.length = L at *
    obtain ⟨m, hm⟩ : ∃ m, L.length = m := ⟨_, rfl⟩
    have HMl := Lib.hid hm
    rw [hm] at hst hLl
    have HLI := Lib.hid HLI
    by_cases h0 : 0 < m
    · have HST : Hid (stR l = (frac (stN L) m, true)) := Lib.hid (by rw [hst, if_pos h0])
      have hle := stN_le L
      have hfr := fun w => l9_cut (stN L) m w h0 (by omega) (by omega)
      obtain ⟨fr, hf⟩ : ∃ fr, frac (stN L) m = fr := ⟨_, rfl⟩
      rw [hf] at hfr
      have HFr := Lib.hid hfr
      have HST2 : Hid (stR l = (fr, true)) := Lib.hid (by rw [HST.out, hf])
      have hm0 : (0 : Int) < (m : Int) := by omega
      have hm1 : ((m : Int) == 0) = false := by simp only [beq_eq_false_iff_ne, ne_eq]; omega
      have hm2 : ¬ m = 0 := by omega
      have hm3 : m ≤ 729 := by omega
      clear hh hHd hLl hL2 hst hm hle hfr hf HST h0
      go_enter Try.func32, Try.ntmps32
      go_wp2_with fail
      refine ((l2_hand l p n c _ HN.out hl (by repeat (first | with_reducible exact HR.out | with_reducible apply Rd.drewN | with_reducible apply Rd.drew | with_reducible apply Rd.alloc)))).mono ?_
      rintro e w1 ⟨rfl, b⟩
      have Sw1 := Lib.hid b.size
      have HB := Lib.hid (chain0 (w := w) (by repeat (first | with_reducible exact Below.refl _ _ | with_reducible exact HB.out | with_reducible apply Below.drew | with_reducible apply bdN | with_reducible refine Below.alloc ?_ (by first | exact Nat.le_refl _ | with_reducible exact HB.out.size | omega | (simp; done) | (simp; omega) | (have := HB.out.size; simp at *; omega)) _ | with_reducible refine Below.setCell ?_ (by first | exact Nat.le_refl _ | with_reducible exact HB.out.size | omega | (simp; done) | (simp; omega) | (have := HB.out.size; simp at *; omega)) _)) b)
      have HR := Lib.hid (Rd.below (by repeat (first | with_reducible exact HR.out | with_reducible apply Rd.drewN | with_reducible apply Rd.drew | with_reducible apply Rd.alloc)) b)
      have K0 := Lib.hid (VB.below (by repeat (first | with_reducible exact K0.out | with_reducible apply VB.drewN | with_reducible apply VB.drew | with_reducible apply VB.alloc)) b)
      clear b
      rw [HH.out]
      go_wp2_with fail
      refine ((HLI.out _ (by repeat (first | with_reducible exact HR.out | with_reducible apply Rd.drewN | with_reducible apply Rd.drew | with_reducible apply Rd.alloc)))).mono ?_
      rintro e w2 ⟨u0, rfl, hu0, b⟩
      have Sw2 := Lib.hid b.size
      have HB := Lib.hid (chain0 (w := w) (by repeat (first | with_reducible exact Below.refl _ _ | with_reducible exact HB.out | with_reducible apply Below.drew | with_reducible apply bdN | with_reducible refine Below.alloc ?_ (by first | exact Nat.le_refl _ | with_reducible exact HB.out.size | omega | (simp; done) | (simp; omega) | (have := HB.out.size; simp at *; omega)) _ | with_reducible refine Below.setCell ?_ (by first | exact Nat.le_refl _ | with_reducible exact HB.out.size | omega | (simp; done) | (simp; omega) | (have := HB.out.size; simp at *; omega)) _)) b)
      have HR := Lib.hid (Rd.below (by repeat (first | with_reducible exact HR.out | with_reducible apply Rd.drewN | with_reducible apply Rd.drew | with_reducible apply Rd.alloc)) b)
      have K0 := Lib.hid (VB.below (by repeat (first | with_reducible exact K0.out | with_reducible apply VB.drewN | with_reducible apply VB.drew | with_reducible apply VB.alloc)) b)
      clear b
      obtain ⟨pu0, cu0, rfl, hcu0, _, _⟩ := hu0.form
      rw [HMl.out]
      clear hu0 hcu0
      go_wp2_with fail
      refine ((HLI.out _ (by repeat (first | with_reducible exact HR.out | with_reducible apply Rd.drewN | with_reducible apply Rd.drew | with_reducible apply Rd.alloc)))).mono ?_
      rintro e w3 ⟨u, rfl, hu, b⟩
      have Sw3 := Lib.hid b.size
      have HB := Lib.hid (chain0 (w := w) (by repeat (first | with_reducible exact Below.refl _ _ | with_reducible exact HB.out | with_reducible apply Below.drew | with_reducible apply bdN | with_reducible refine Below.alloc ?_ (by first | exact Nat.le_refl _ | with_reducible exact HB.out.size | omega | (simp; done) | (simp; omega) | (have := HB.out.size; simp at *; omega)) _ | with_reducible refine Below.setCell ?_ (by first | exact Nat.le_refl _ | with_reducible exact HB.out.size | omega | (simp; done) | (simp; omega) | (have := HB.out.size; simp at *; omega)) _)) b)
      have HR := Lib.hid (Rd.below (by repeat (first | with_reducible exact HR.out | with_reducible apply Rd.drewN | with_reducible apply Rd.drew | with_reducible apply Rd.alloc)) b)
      have K0 := Lib.hid (VB.below (by repeat (first | with_reducible exact K0.out | with_reducible apply VB.drewN | with_reducible apply VB.drew | with_reducible apply VB.alloc)) b)
      clear b
      have HO : Hid (OwnA3 w3 w.heap.size u L) := Lib.hid (hu.base (by have h1 := Sw1.out; have h2 := Sw2.out; simp at *; omega))
      clear hu
      obtain ⟨pu, cu, rfl, hcu, _, _⟩ := HO.out.form
      rw [HMl.out] at HO hcu ⊢
      go_wp2_with fail
      go_loopw [5, 6] (fun s i wr => ∃ (k : Nat) (S : Int), k ≤ m ∧ i = .int .i64 k ∧ s = .int .i64 S ∧ Hid (S = (stK L k : Nat)) ∧ Hid (OwnA3 wr w.heap.size (.slice pu m cu) L) ∧ Hid (Below w.heap.size w wr) ∧ Hid (VB wr w.heap.size 24 (fv (0, 0)))) (fun _ i _ => m - (intOf i).toNat)
      case atStart => exact ⟨0, 0, Nat.zero_le _, rfl, rfl, Lib.hid (by simp [stK]), HO, HB, K0⟩
      case round =>
        clear HB HO K0
        obtain ⟨k, S, hk, rfl, rfl, HSk, HO, HB, K0⟩ := hrel
        by_cases hlt : k < m
        · have m0 : (0 : Int) ≤ (k : Int) := by omega
          have m1 : (k : Int) < (m : Int) := by omega
          have hsk := stK_le L k
          have hS := HSk.out
          have s0 : 0 ≤ S := by omega
          have s1 : S ≤ 729 := by omega
          obtain ⟨x, hx⟩ : ∃ x, L[k]? = some x := ⟨L[k]'(by rw [HMl.out]; exact hlt), List.getElem?_eq_getElem _⟩
          have HX := Lib.hid hx
          clear hx hsk hS
          go_wp2_with fail
          go_loopw [5, 7] (fun s i wr => ∃ (j : Nat), j ≤ m ∧ i = .int .i64 j ∧ s = .int .i64 S ∧ Hid (∀ (q : Nat) (y : A3), q < j → L[q]? = some y → com x y ≠ 0) ∧ Hid (OwnA3 wr w.heap.size (.slice pu m cu) L) ∧ Hid (Below w.heap.size w wr) ∧ Hid (VB wr w.heap.size 24 (fv (0, 0)))) (fun _ i _ => m - (intOf i).toNat)
          case atStart => exact ⟨0, Nat.zero_le _, rfl, rfl, Lib.hid (fun q y hq => by omega), HO, HB, K0⟩
          case round =>
            clear HB HO K0
            obtain ⟨j, hj, rfl, rfl, HU, HO, HB, K0⟩ := hrel
            by_cases hjt : j < m
            · obtain ⟨b, o, x', rfl, hb, hx', c0, c1, c2⟩ := (OwnA3.rd HO.out).aA3 (k := k) (by rw [HMl.out]; exact hlt)
              rw [HX.out] at hx'
              injection hx' with hx'
              subst hx'
              obtain ⟨b2, o2, y, hbo, hb2, hy, d0, d1, d2⟩ := (OwnA3.rd HO.out).aA3 (k := j) (by rw [HMl.out]; exact hjt)
              injection hbo with hbo
              injection hbo with e1 e2
              subst e1; subst e2
              have HY := Lib.hid hy
              have n0 : (0 : Int) ≤ (j : Int) := by omega
              have n1 : (j : Int) < (m : Int) := by omega
              have HCm := Lib.hid (fun w => l7_common x y w)
              obtain ⟨q, hq⟩ : ∃ q, com x y = q := ⟨_, rfl⟩
              rw [hq] at HCm
              have HQ := Lib.hid hq
              clear hy hq
              by_cases hq0 : q = 0
              · subst hq0
                have HE : Hid (S + 1 = (stK L (k + 1) : Nat)) := Lib.hid (by rw [HSk.out, stK_yes HX.out (stays_yes HY.out HQ.out)]; rfl)
                go_wp2_with fail
                have qc0 := fun d os => cell_regrown c0 d os
                have qc1 := fun d os => cell_regrown c1 d os
                have qc2 := fun d os => cell_regrown c2 d os
                have qd0 := fun d os => cell_regrown d0 d os
                have qd1 := fun d os => cell_regrown d1 d os
                have qd2 := fun d os => cell_regrown d2 d os
                refine wp_region_quiet_below (by kernel_rfl) (by kernel_rfl) ?_
                repeat (first | go_big_quiet_step ((go_at_call 67; with_reducible exact Calls.regrown_of (HCm.out _))) | quiet_step ((go_at_call 67; with_reducible exact Calls.regrown_of (HCm.out _))))
                refine wpQuiet_nil ?_
                intro w5 hw2
                have b : Below wr.heap.size wr w5 := by obtain ⟨r, hr⟩ := hw2; rw [hr]; exact below_regrown _ _ _
                clear hw2 qc0 qc1 qc2 qd0 qd1 qd2
                have Sw5 := Lib.hid b.size
                have HB := Lib.hid (chain0 (w := w) (by repeat (first | with_reducible exact Below.refl _ _ | with_reducible exact HB.out | with_reducible apply Below.drew | with_reducible apply bdN | with_reducible refine Below.alloc ?_ (by first | exact Nat.le_refl _ | with_reducible exact HB.out.size | omega | (simp; done) | (simp; omega) | (have := HB.out.size; simp at *; omega)) _ | with_reducible refine Below.setCell ?_ (by first | exact Nat.le_refl _ | with_reducible exact HB.out.size | omega | (simp; done) | (simp; omega) | (have := HB.out.size; simp at *; omega)) _)) b)
                have HO := Lib.hid (OwnA3.below (by repeat (first | with_reducible exact HO.out | with_reducible apply OwnA3.drewN | with_reducible apply OwnA3.drew | with_reducible apply OwnA3.alloc)) b)
                have K0 := Lib.hid (VB.below (by repeat (first | with_reducible exact K0.out | with_reducible apply VB.drewN | with_reducible apply VB.drew | with_reducible apply VB.alloc)) b)
                clear b
                clear c0 c1 c2 d0 d1 d2
                go_wp2_with fail
                go_roundw
                case rel => exact ⟨k + 1, S + 1, by omega, by go_num, rfl, HE, HO, HB, K0⟩
                case measure => simp [intOf]; omega
              · have q1 : ((q : Int) == 0) = false := by simp only [beq_eq_false_iff_ne, ne_eq]; omega
                have HU2 : Hid (∀ (z : Nat) (y : A3), z < j + 1 → L[z]? = some y → com x y ≠ 0) := Lib.hid (fun z y' hz hy' => by
                  rcases Nat.lt_or_ge z j with h | h
                  · exact HU.out z y' h hy'
                  · obtain rfl : z = j := by omega
                    have h1 := HY.out; rw [hy'] at h1; injection h1 with h1; subst h1
                    rw [HQ.out]; exact hq0)
                go_wp2_with fail
                have qc0 := fun d os => cell_regrown c0 d os
                have qc1 := fun d os => cell_regrown c1 d os
                have qc2 := fun d os => cell_regrown c2 d os
                have qd0 := fun d os => cell_regrown d0 d os
                have qd1 := fun d os => cell_regrown d1 d os
                have qd2 := fun d os => cell_regrown d2 d os
                refine wp_region_quiet_below (by kernel_rfl) (by kernel_rfl) ?_
                repeat (first | go_big_quiet_step ((go_at_call 67; with_reducible exact Calls.regrown_of (HCm.out _))) | quiet_step ((go_at_call 67; with_reducible exact Calls.regrown_of (HCm.out _))))
                refine wpQuiet_nil ?_
                intro w5 hw2
                have b : Below wr.heap.size wr w5 := by obtain ⟨r, hr⟩ := hw2; rw [hr]; exact below_regrown _ _ _
                clear hw2 qc0 qc1 qc2 qd0 qd1 qd2
                have Sw5 := Lib.hid b.size
                have HB := Lib.hid (chain0 (w := w) (by repeat (first | with_reducible exact Below.refl _ _ | with_reducible exact HB.out | with_reducible apply Below.drew | with_reducible apply bdN | with_reducible refine Below.alloc ?_ (by first | exact Nat.le_refl _ | with_reducible exact HB.out.size | omega | (simp; done) | (simp; omega) | (have := HB.out.size; simp at *; omega)) _ | with_reducible refine Below.setCell ?_ (by first | exact Nat.le_refl _ | with_reducible exact HB.out.size | omega | (simp; done) | (simp; omega) | (have := HB.out.size; simp at *; omega)) _)) b)
                have HO := Lib.hid (OwnA3.below (by repeat (first | with_reducible exact HO.out | with_reducible apply OwnA3.drewN | with_reducible apply OwnA3.drew | with_reducible apply OwnA3.alloc)) b)
                have K0 := Lib.hid (VB.below (by repeat (first | with_reducible exact K0.out | with_reducible apply VB.drewN | with_reducible apply VB.drew | with_reducible apply VB.alloc)) b)
                clear b
                clear c0 c1 c2 d0 d1 d2
                go_wp2_with fail
                go_roundw
                case rel => exact ⟨j + 1, by omega, by go_num, rfl, HU2, HO, HB, K0⟩
                case measure => simp [intOf]; omega
            · have hjm : j = m := by omega
              subst hjm
              have HE : Hid (S = (stK L (k + 1) : Nat)) := Lib.hid (by rw [HSk.out, stK_no HX.out (stays_no (fun q y hq hy => HU.out q y (by rw [← HMl.out]; exact hq) hy))])
              go_wp2_with fail
              go_roundw
              case rel => exact ⟨k + 1, S, by omega, by go_num, rfl, HE, HO, HB, K0⟩
              case measure => simp [intOf]; omega
        · have hkm : k = m := by omega
          subst hkm
          have hS : S = (stN L : Nat) := by rw [HSk.out, ← HMl.out, stK_all]
          rw [← hS] at HFr
          clear hS
          go_wp2_with fail
          refine ((HFr.out _)).mono ?_
          rintro e w6 ⟨rfl, b⟩
          have Sw6 := Lib.hid b.size
          have HB := Lib.hid (chain0 (w := w) (by repeat (first | with_reducible exact Below.refl _ _ | with_reducible exact HB.out | with_reducible apply Below.drew | with_reducible apply bdN | with_reducible refine Below.alloc ?_ (by first | exact Nat.le_refl _ | with_reducible exact HB.out.size | omega | (simp; done) | (simp; omega) | (have := HB.out.size; simp at *; omega)) _ | with_reducible refine Below.setCell ?_ (by first | exact Nat.le_refl _ | with_reducible exact HB.out.size | omega | (simp; done) | (simp; omega) | (have := HB.out.size; simp at *; omega)) _)) b)
          have K0 := Lib.hid (VB.below (by repeat (first | with_reducible exact K0.out | with_reducible apply VB.drewN | with_reducible apply VB.drew | with_reducible apply VB.alloc)) b)
          clear b
          go_wp2_with ((with_reducible refine store_a2 rfl _ _ rfl K0.out ?_ fr ?_ ?_); rfl; rfl; intro w7 hM hG)
          try simp only [Exit.inBlock, Exit.then]
          refine bodyPost_ret (res_vb2 Try.results32 rfl hM Try.underlying24 (a2_info rfl)) rfl ?_
          exact ⟨by rw [HST2.out]; rfl, HB.out.grown hG HB.out.size (fun k hk => by injection hk with hk; omega)⟩
    · have HST : Hid (stR l = ((0, 0), false)) := Lib.hid (by rw [hst, if_neg h0])
      have hm0 : m = 0 := by omega
      subst hm0
      clear hh hHd hLl hL2 hst hm h0
      go_enter Try.func32, Try.ntmps32
      go_wp2_with fail
      refine ((l2_hand l p n c _ HN.out hl (by repeat (first | with_reducible exact HR.out | with_reducible apply Rd.drewN | with_reducible apply Rd.drew | with_reducible apply Rd.alloc)))).mono ?_
      rintro e w1 ⟨rfl, b⟩
      have Sw1 := Lib.hid b.size
      have HB := Lib.hid (chain0 (w := w) (by repeat (first | with_reducible exact Below.refl _ _ | with_reducible exact HB.out | with_reducible apply Below.drew | with_reducible apply bdN | with_reducible refine Below.alloc ?_ (by first | exact Nat.le_refl _ | with_reducible exact HB.out.size | omega | (simp; done) | (simp; omega) | (have := HB.out.size; simp at *; omega)) _ | with_reducible refine Below.setCell ?_ (by first | exact Nat.le_refl _ | with_reducible exact HB.out.size | omega | (simp; done) | (simp; omega) | (have := HB.out.size; simp at *; omega)) _)) b)
      have HR := Lib.hid (Rd.below (by repeat (first | with_reducible exact HR.out | with_reducible apply Rd.drewN | with_reducible apply Rd.drew | with_reducible apply Rd.alloc)) b)
      have K0 := Lib.hid (VB.below (by repeat (first | with_reducible exact K0.out | with_reducible apply VB.drewN | with_reducible apply VB.drew | with_reducible apply VB.alloc)) b)
      clear b
      rw [HH.out]
      go_wp2_with fail
      refine ((HLI.out _ (by repeat (first | with_reducible exact HR.out | with_reducible apply Rd.drewN | with_reducible apply Rd.drew | with_reducible apply Rd.alloc)))).mono ?_
      rintro e w2 ⟨u, rfl, hu, b⟩
      have Sw2 := Lib.hid b.size
      have HB := Lib.hid (chain0 (w := w) (by repeat (first | with_reducible exact Below.refl _ _ | with_reducible exact HB.out | with_reducible apply Below.drew | with_reducible apply bdN | with_reducible refine Below.alloc ?_ (by first | exact Nat.le_refl _ | with_reducible exact HB.out.size | omega | (simp; done) | (simp; omega) | (have := HB.out.size; simp at *; omega)) _ | with_reducible refine Below.setCell ?_ (by first | exact Nat.le_refl _ | with_reducible exact HB.out.size | omega | (simp; done) | (simp; omega) | (have := HB.out.size; simp at *; omega)) _)) b)
      have HR := Lib.hid (Rd.below (by repeat (first | with_reducible exact HR.out | with_reducible apply Rd.drewN | with_reducible apply Rd.drew | with_reducible apply Rd.alloc)) b)
      have K0 := Lib.hid (VB.below (by repeat (first | with_reducible exact K0.out | with_reducible apply VB.drewN | with_reducible apply VB.drew | with_reducible apply VB.alloc)) b)
      clear b
      obtain ⟨pu, cu, rfl, hcu, _, _⟩ := hu.form
      rw [HMl.out]
      clear hu
      go_wp2_with ((with_reducible refine store_a2 rfl _ _ rfl K0.out ?_ (0, 0) ?_ ?_); rfl; rfl; intro w2 hM hG)
      try simp only [Exit.inBlock, Exit.then]
      refine bodyPost_ret (res_vb2 Try.results32 rfl hM Try.underlying24 (a2_info rfl)) rfl ?_
      exact ⟨by rw [HST.out]; rfl, HB.out.grown hG HB.out.size (fun k hk => by injection hk with hk; omega)⟩
end Go.Proofs.Ytcedbhgjabheaaa.chance

