/- DropCard: the program and the model alike, for a card that is none too. -/
import Derived.Test.YtbimbaogjknboabPc
namespace Go.Proofs.Ytbimbaogjknboab.cards
open Go.RowKit
set_option linter.unusedVariables false

/-- Four numbers of 64 bits. -/
def wf4 (x : Cd) : Prop := (Lit.int .i64 x.a).wf = true ∧ (Lit.int .i64 x.b).wf = true ∧ (Lit.int .i64 x.c).wf = true ∧ (Lit.int .i64 x.d).wf = true
theorem wf4_ok {x : Cd} (h : x.ok = true) : wf4 x := by
  obtain ⟨⟨x1, x2⟩, ⟨x3, x4⟩, ⟨x5, x6⟩, x7, x8⟩ := Cd.bd h
  exact ⟨wf_small x1 (by omega), wf_small x3 (by omega), wf_small x5 (by omega), wf_small x7 (by omega)⟩
theorem key_litsW (x : Cd) (h : wf4 x) : (Try.prog).keyLits 3 30 x.val.cells.toList = some (lits x) := by
  obtain ⟨w1, w2, w3, w4⟩ := h
  have ce : (Try.prog).cellsOf 3 = 1 := by kernel_rfl
  have ct : (Try.prog).cellsOf 30 = 4 := by kernel_rfl
  simp [Program.keyLits, Try.underlying30, Try.underlying3, Value.cells, ce, ct, w1, w2, w3, w4, show List.range 4 = [0, 1, 2, 3] from rfl, lits]
theorem eq_runW (x y : Cd) (hx : wf4 x) (hy : wf4 y) (w : World) : (Op.equalIn 10000 30 x.val y.val).run Try.prog w = .ok (same x y) w := by
  obtain ⟨r, hr, hi⟩ := run_equalIn_deep (P := Try.prog) 9998 2 30 (by kernel_rfl) w 3 3 x.val y.val (lits x) (lits y) (by kernel_rfl) (by kernel_rfl) (key_litsW x hx) (key_litsW y hy)
  have e : r = same x y := by
    rw [Bool.eq_iff_iff, hi]
    simp [lits, same]
  rw [← e]
  exact hr
theorem same_bad {x c : Cd} (hx : x.ok = true) (hc : c.ok = false) : same x c = false := by
  rw [Bool.eq_false_iff]; intro h
  rw [same_iff.1 h] at hx
  rw [hx] at hc; cases hc

set_option maxRecDepth 100000 in
set_option maxHeartbeats 2000000 in
theorem place_bad (l : List Cd) (c : Cd) (p : Option Addr) (n cp : Nat) (w : World) (hn : l.length = n) (hl : n ≤ 1000) (hr : Rd w p (flat l)) (hok : l.all Cd.ok = true) (hw : wf4 c) (hc : c.ok = false) :
    Calls Try.prog 101 #[.slice p n cp, c.val] w fun e w' => e = .returned (.int .i64 (-1)) ∧ Below w.heap.size w w' := by
  have HN := Lib.hid hn
  have HR := Lib.hid hr
  have HK := Lib.hid hok
  have HW := Lib.hid hw
  have HC := Lib.hid hc
  clear hn hr hok hw hc
  go_enter Try.func101, Try.ntmps101
  go_wp2_with fail
  go_loopw [5] (fun i wr => ∃ k : Nat, k ≤ n ∧ i = .int .i64 k ∧ Hid (Below w.heap.size w wr) ∧ Hid (Box wr w.heap.size c)) (fun i _ => n - (intOf i).toNat)
  case atStart => exact ⟨0, Nat.zero_le _, rfl, Lib.hid (by repeat (first | with_reducible exact Below.refl _ _ | with_reducible exact HB.out | with_reducible apply Below.drew | with_reducible apply bdN | with_reducible refine Below.alloc ?_ (by first | exact Nat.le_refl _ | (simp; done) | (simp; omega) | (have := HB.out.size; simp at *; omega)) _ | with_reducible refine Below.setCell ?_ (by first | exact Nat.le_refl _ | (simp; done) | (simp; omega) | (have := HB.out.size; simp at *; omega)) _)), Lib.hid (by repeat (first | with_reducible exact HB.out | with_reducible apply Box.drewN | with_reducible apply Box.drew | (with_reducible refine Box.newAt ?_ ?_ <;> first | (simp; done) | rfl) | with_reducible apply Box.alloc))⟩
  case round =>
    obtain ⟨k, hk, rfl, HB, K0⟩ := hrel
    obtain ⟨k0a, k0b, k0c, k0d⟩ := K0.out.cell
    by_cases hlt : k < n
    · obtain ⟨b, o, x, rfl, hb, hx, c0, c1, c2, c3⟩ := (HR.out.below HB.out).card (k := k) (by rw [HN.out]; exact hlt)
      have he := eq_runW x c (wf4_ok (ok_at HK.out hx)) HW.out
      rw [same_bad (ok_at HK.out hx) HC.out] at he
      clear hx
      have m0 : (0 : Int) ≤ (k : Int) := by omega
      have m1 : (k : Int) < (n : Int) := by omega
      go_wp2_with fail
      have qk0a := fun d os => cell_regrown k0a d os
      have qk0b := fun d os => cell_regrown k0b d os
      have qk0c := fun d os => cell_regrown k0c d os
      have qk0d := fun d os => cell_regrown k0d d os
      have qc0 := fun d os => cell_regrown c0 d os
      have qc1 := fun d os => cell_regrown c1 d os
      have qc2 := fun d os => cell_regrown c2 d os
      have qc3 := fun d os => cell_regrown c3 d os
      refine wp_region_quiet_below (by kernel_rfl) (by kernel_rfl) ?_
      repeat (first | go_big_quiet_step ((fail)) | quiet_step ((fail)))
      refine wpQuiet_nil ?_
      intro w3 hw2
      have b : Below wr.heap.size wr w3 := by obtain ⟨r, hr⟩ := hw2; rw [hr]; exact below_regrown _ _ _
      clear hw2 qc0 qc1 qc2 qc3 qk0a qk0b qk0c qk0d
      have Sw3 := Lib.hid b.size
      have HB := Lib.hid (chain0 (w := w) (by repeat (first | with_reducible exact Below.refl _ _ | with_reducible exact HB.out | with_reducible apply Below.drew | with_reducible apply bdN | with_reducible refine Below.alloc ?_ (by first | exact Nat.le_refl _ | (simp; done) | (simp; omega) | (have := HB.out.size; simp at *; omega)) _ | with_reducible refine Below.setCell ?_ (by first | exact Nat.le_refl _ | (simp; done) | (simp; omega) | (have := HB.out.size; simp at *; omega)) _)) b)
      have K0 : Hid (Box _ (w.heap.size) (c)) := Lib.hid (Box.below (by repeat (first | with_reducible exact K0.out | with_reducible apply Box.drewN | with_reducible apply Box.drew | (with_reducible refine Box.newAt ?_ ?_ <;> first | (simp; done) | rfl) | with_reducible apply Box.alloc)) b)
      try clear k0a k0b k0c k0d k0z
      have k0z := K0.out.lt
      obtain ⟨k0a, k0b, k0c, k0d⟩ := K0.out.cell
      clear b
      clear c0 c1 c2 c3 he
      go_wp2_with fail
      go_roundw
      case rel => exact ⟨k + 1, by omega, by go_num, HB, K0⟩
      case measure => simp [intOf]; omega
    · obtain rfl : k = n := by omega
      go_wp2_with fail
      go_ret
      exact ⟨rfl, HB.out⟩

set_option maxRecDepth 100000 in
set_option maxHeartbeats 2000000 in
theorem has_bad (l : List Cd) (c : Cd) (p : Option Addr) (n cp : Nat) (w : World) (hn : l.length = n) (hl : n ≤ 1000) (hr : Rd w p (flat l)) (hok : l.all Cd.ok = true) (hw : wf4 c) (hc : c.ok = false) :
    Calls Try.prog 96 #[.slice p n cp, c.val] w fun e w' => e = .returned (.bool false) ∧ Below w.heap.size w w' := by
  have HR := Lib.hid hr
  have HP := Lib.hid (fun w' (hw' : Rd w' p (flat l)) => place_bad l c p n cp w' hn hl hw' hok hw hc)
  clear hr
  go_enter Try.func96, Try.ntmps96
  go_wp2_with fail
  refine ((HP.out _ (by repeat (first | with_reducible exact HR.out | with_reducible apply Rd.drewN | with_reducible apply Rd.drew | with_reducible apply Rd.alloc)))).mono ?_
  rintro e w1 ⟨rfl, b⟩
  have Sw1 := Lib.hid b.size
  have HB := Lib.hid (chain0 (w := w) (by repeat (first | with_reducible exact Below.refl _ _ | with_reducible exact HB.out | with_reducible apply Below.drew | with_reducible apply bdN | with_reducible refine Below.alloc ?_ (by first | exact Nat.le_refl _ | (simp; done) | (simp; omega) | (have := HB.out.size; simp at *; omega)) _ | with_reducible refine Below.setCell ?_ (by first | exact Nat.le_refl _ | (simp; done) | (simp; omega) | (have := HB.out.size; simp at *; omega)) _)) b)
  have HR := Lib.hid (Rd.below (by repeat (first | with_reducible exact HR.out | with_reducible apply Rd.drewN | with_reducible apply Rd.drew | with_reducible apply Rd.alloc)) b)
  have K0 : Hid (Box _ (w.heap.size) (c)) := Lib.hid (Box.below (by repeat (first | with_reducible exact K0.out | with_reducible apply Box.drewN | with_reducible apply Box.drew | (with_reducible refine Box.newAt ?_ ?_ <;> first | (simp; done) | rfl) | with_reducible apply Box.alloc)) b)
  try clear k0a k0b k0c k0d k0z
  have k0z := K0.out.lt
  obtain ⟨k0a, k0b, k0c, k0d⟩ := K0.out.cell
  clear b
  go_wp2_with fail
  go_ret
  exact ⟨rfl, by repeat (first | with_reducible exact Below.refl _ _ | with_reducible exact HB.out | with_reducible apply Below.drew | with_reducible apply bdN | with_reducible refine Below.alloc ?_ (by first | exact Nat.le_refl _ | (simp; done) | (simp; omega) | (have := HB.out.size; simp at *; omega)) _ | with_reducible refine Below.setCell ?_ (by first | exact Nat.le_refl _ | (simp; done) | (simp; omega) | (have := HB.out.size; simp at *; omega)) _)⟩

set_option maxRecDepth 100000 in
set_option maxHeartbeats 4000000 in
theorem l2_drop (l : List Cd) (k ba o n cp : Nat) (w : World) (hn : l.length = n) (hl : n ≤ 1000) (hcp : n ≤ cp) (hk : k < n) (hr : Rd w (some ⟨ba, o, none⟩) (flat l)) :
    Calls Try.prog 100 #[.slice (some ⟨ba, o, none⟩) n cp, .int .i64 k] w fun e w' => ∃ u, e = .returned u ∧ OwnN w' w.heap.size u (l.take k ++ l.drop (k + 1)) ∧ Below w.heap.size w w' := by
  have HN := Lib.hid hn
  have HR0 := Lib.hid hr
  obtain ⟨j, hj⟩ : ∃ j, k + 1 = j := ⟨_, rfl⟩
  have hwr : IntKind.i64.wrap ((k : Int) + 1) = (j : Int) := by rw [IntKind.wrap_i64]; omega
  rw [hj]
  have HJ := Lib.hid hj
  have HRt := Lib.hid (hr.take k)
  have HRd := Lib.hid (hr.dropIf (cp := cp) j (by rw [hn]; exact hcp))
  have hTl : (l.take k).length = k := by rw [List.length_take, hn]; omega
  have hDl : (l.drop j).length = n - j := by rw [List.length_drop, hn]
  have HTl := Lib.hid hTl
  have HDl := Lib.hid hDl
  have hcpl : l.length ≤ cp := by rw [hn]; exact hcp
  have HCp := Lib.hid hcpl
  have m0 : (0 : Int) ≤ (k : Int) := by omega
  have m1 : (k : Int) < (n : Int) := by omega
  have m2 : (k : Int) ≤ (cp : Int) := by omega
  have m3 : (0 : Int) ≤ (j : Int) := by omega
  have m4 : (j : Int) ≤ (n : Int) := by omega
  have m5 : (j : Int) ≤ (cp : Int) := by omega
  clear hn hr hTl hDl hcpl hj
  go_enter Try.func100, Try.ntmps100
  go_wp2_with fail
  have HB := Lib.hid (Below.refl w.heap.size w)
  go_region_law (first
    | (go_simp; go_at_call 127; refine (l2_own (l.take k) (some ⟨ba, o, none⟩) k cp _ HTl.out (by omega) (by repeat (first | with_reducible exact HRt.out | with_reducible apply Rd.drewN | with_reducible apply Rd.drew | with_reducible apply Rd.alloc)) (fun h => by cases h)).mono ?_; rintro e w5 ⟨u, rfl, hu, b⟩; have HU : Hid (OwnN w5 w.heap.size u (l.take k)) := Lib.hid (hu.base (by simp)); have HB := Lib.hid (chain0 (w := w) (by repeat (first | with_reducible exact Below.refl _ _ | with_reducible exact HB.out | with_reducible apply Below.drew | with_reducible apply bdN | with_reducible refine Below.alloc ?_ (by first | exact Nat.le_refl _ | (simp; done) | (simp; omega) | (have := HB.out.size; simp at *; omega)) _ | with_reducible refine Below.setCell ?_ (by first | exact Nat.le_refl _ | (simp; done) | (simp; omega) | (have := HB.out.size; simp at *; omega)) _)) b); have HRt := Lib.hid (Rd.below (by repeat (first | with_reducible exact HRt.out | with_reducible apply Rd.drewN | with_reducible apply Rd.drew | with_reducible apply Rd.alloc)) b); have HRd := Lib.hid ((HR0.out.below HB.out).dropIf (cp := cp) j HCp.out); clear hu)
    | (refine step_append_cards rfl (.tmp 8) (.tmp 12) rfl w.heap.size u (l.take k) (l.drop j) _ _ _ rfl rfl ?_ ?_ ?_ ?_ ?_ ?_ ?_
       · first | exact HU.out | exact HU.out.drew
       · first | exact HDl.out | (rw [HDl.out]; simp; done) | (rw [HDl.out]; omega)
       · exact HRd.out
       · intro h; split at h <;> cases h
       · have := HTl.out; simp; omega
       · exact HB.out.size
       intro v1 w6 hO1 hB1 hG1
       have HO1 := Lib.hid hO1
       have HB := Lib.hid (HB.out.trans hB1)
       clear hO1 hB1 hG1))
  all_goals
    go_wp2_with fail
    all_goals go_ret
    all_goals exact ⟨_, rfl, HO1.out, HB.out⟩

noncomputable def dropR (l : List Cd) (c : Cd) : List Cd × Bool := if handB l = true ∧ c.ok = true ∧ there l c = true then (l.take (less l c) ++ l.drop (less l c + 1), true) else ([], false)
theorem dropR_len (l : List Cd) (c : Cd) : (dropR l c).1.length ≤ 1000 := by
  unfold dropR
  split
  · rename_i h
    have h1 := (handB_true.1 h.1).1
    show (l.take (less l c) ++ l.drop (less l c + 1)).length ≤ _
    rw [List.length_append, List.length_take, List.length_drop]; omega
  · simp

set_option maxRecDepth 100000 in
set_option maxHeartbeats 4000000 in
theorem spec_drop (l : List Cd) (c : Cd) (b o n cp : Nat) (w : World) (hn : l.length = n) (hl : n ≤ 1000000000) (hr : Rd w (some ⟨b, o, none⟩) (flat l)) (hcp : n ≤ cp) (hwf : wf4 c) :
    Calls Try.prog 29 #[.slice (some ⟨b, o, none⟩) n cp, c.val] w fun e w' => ∃ u, e = .returned (.tuple #[u, .bool (dropR l c).2]) ∧ Own w' w.heap.size u (dropR l c).1 ∧ Below w.heap.size w w' := by
  have HN := Lib.hid hn
  have HR := Lib.hid hr
  have HW := Lib.hid hwf
  clear hn hr hwf
  go_enter Try.func29, Try.ntmps29
  go_wp2_with fail
  refine ((l2_hand l (some ⟨b, o, none⟩) n cp _ HN.out hl (by repeat (first | with_reducible exact HR.out | with_reducible apply Rd.drewN | with_reducible apply Rd.drew | with_reducible apply Rd.alloc)))).mono ?_
  rintro e w1 ⟨rfl, b⟩
  have Sw1 := Lib.hid b.size
  have HB := Lib.hid (chain0 (w := w) (by repeat (first | with_reducible exact Below.refl _ _ | with_reducible exact HB.out | with_reducible apply Below.drew | with_reducible apply bdN | with_reducible refine Below.alloc ?_ (by first | exact Nat.le_refl _ | (simp; done) | (simp; omega) | (have := HB.out.size; simp at *; omega)) _ | with_reducible refine Below.setCell ?_ (by first | exact Nat.le_refl _ | (simp; done) | (simp; omega) | (have := HB.out.size; simp at *; omega)) _)) b)
  have HR := Lib.hid (Rd.below (by repeat (first | with_reducible exact HR.out | with_reducible apply Rd.drewN | with_reducible apply Rd.drew | with_reducible apply Rd.alloc)) b)
  have K0 : Hid (Box _ (w.heap.size) (c)) := Lib.hid (Box.below (by repeat (first | with_reducible exact K0.out | with_reducible apply Box.drewN | with_reducible apply Box.drew | (with_reducible refine Box.newAt ?_ ?_ <;> first | (simp; done) | rfl) | with_reducible apply Box.alloc)) b)
  try clear k0a k0b k0c k0d k0z
  have k0z := K0.out.lt
  obtain ⟨k0a, k0b, k0c, k0d⟩ := K0.out.cell
  clear b
  cases hh : handB l
  · have HT := Lib.hid (show dropR l c = ([], false) by unfold dropR; rw [if_neg (by simp [hh])])
    go_wp2_with fail
    go_ret2
    exact ⟨_, ret_two (by rw [HT.out]), by rw [HT.out]; exact Own.empty _ _ HB.out.size, by repeat (first | with_reducible exact Below.refl _ _ | with_reducible exact HB.out | with_reducible apply Below.drew | with_reducible apply bdN | with_reducible refine Below.alloc ?_ (by first | exact Nat.le_refl _ | (simp; done) | (simp; omega) | (have := HB.out.size; simp at *; omega)) _ | with_reducible refine Below.setCell ?_ (by first | exact Nat.le_refl _ | (simp; done) | (simp; omega) | (have := HB.out.size; simp at *; omega)) _)⟩
  · have HH := Lib.hid (handB_true.1 hh)
    have hn27 : n ≤ 27 := by have := HH.out.1; have := HN.out; omega
    cases hc : c.ok
    · have HT := Lib.hid (show dropR l c = ([], false) by unfold dropR; rw [if_neg (by simp [hc])])
      go_wp2_with fail
      refine ((has_bad l c (some ⟨b, o, none⟩) n cp _ HN.out (by omega) (by repeat (first | with_reducible exact HR.out | with_reducible apply Rd.drewN | with_reducible apply Rd.drew | with_reducible apply Rd.alloc)) HH.out.2.1 HW.out hc)).mono ?_
      rintro e w2 ⟨rfl, b⟩
      have Sw2 := Lib.hid b.size
      have HB := Lib.hid (chain0 (w := w) (by repeat (first | with_reducible exact Below.refl _ _ | with_reducible exact HB.out | with_reducible apply Below.drew | with_reducible apply bdN | with_reducible refine Below.alloc ?_ (by first | exact Nat.le_refl _ | (simp; done) | (simp; omega) | (have := HB.out.size; simp at *; omega)) _ | with_reducible refine Below.setCell ?_ (by first | exact Nat.le_refl _ | (simp; done) | (simp; omega) | (have := HB.out.size; simp at *; omega)) _)) b)
      have HR := Lib.hid (Rd.below (by repeat (first | with_reducible exact HR.out | with_reducible apply Rd.drewN | with_reducible apply Rd.drew | with_reducible apply Rd.alloc)) b)
      have K0 : Hid (Box _ (w.heap.size) (c)) := Lib.hid (Box.below (by repeat (first | with_reducible exact K0.out | with_reducible apply Box.drewN | with_reducible apply Box.drew | (with_reducible refine Box.newAt ?_ ?_ <;> first | (simp; done) | rfl) | with_reducible apply Box.alloc)) b)
      try clear k0a k0b k0c k0d k0z
      have k0z := K0.out.lt
      obtain ⟨k0a, k0b, k0c, k0d⟩ := K0.out.cell
      clear b
      go_wp2_with fail
      go_ret2
      exact ⟨_, ret_two (by rw [HT.out]), by rw [HT.out]; exact Own.empty _ _ HB.out.size, by repeat (first | with_reducible exact Below.refl _ _ | with_reducible exact HB.out | with_reducible apply Below.drew | with_reducible apply bdN | with_reducible refine Below.alloc ?_ (by first | exact Nat.le_refl _ | (simp; done) | (simp; omega) | (have := HB.out.size; simp at *; omega)) _ | with_reducible refine Below.setCell ?_ (by first | exact Nat.le_refl _ | (simp; done) | (simp; omega) | (have := HB.out.size; simp at *; omega)) _)⟩
    · have HC := Lib.hid hc
      go_wp2_with fail
      refine ((l2_has l c (some ⟨b, o, none⟩) n cp _ HN.out (by omega) (by repeat (first | with_reducible exact HR.out | with_reducible apply Rd.drewN | with_reducible apply Rd.drew | with_reducible apply Rd.alloc)) HH.out.2.1 HC.out HH.out.2.2)).mono ?_
      rintro e w2 ⟨rfl, b⟩
      have Sw2 := Lib.hid b.size
      have HB := Lib.hid (chain0 (w := w) (by repeat (first | with_reducible exact Below.refl _ _ | with_reducible exact HB.out | with_reducible apply Below.drew | with_reducible apply bdN | with_reducible refine Below.alloc ?_ (by first | exact Nat.le_refl _ | (simp; done) | (simp; omega) | (have := HB.out.size; simp at *; omega)) _ | with_reducible refine Below.setCell ?_ (by first | exact Nat.le_refl _ | (simp; done) | (simp; omega) | (have := HB.out.size; simp at *; omega)) _)) b)
      have HR := Lib.hid (Rd.below (by repeat (first | with_reducible exact HR.out | with_reducible apply Rd.drewN | with_reducible apply Rd.drew | with_reducible apply Rd.alloc)) b)
      have K0 : Hid (Box _ (w.heap.size) (c)) := Lib.hid (Box.below (by repeat (first | with_reducible exact K0.out | with_reducible apply Box.drewN | with_reducible apply Box.drew | (with_reducible refine Box.newAt ?_ ?_ <;> first | (simp; done) | rfl) | with_reducible apply Box.alloc)) b)
      try clear k0a k0b k0c k0d k0z
      have k0z := K0.out.lt
      obtain ⟨k0a, k0b, k0c, k0d⟩ := K0.out.cell
      clear b
      cases ht : there l c
      · have HT := Lib.hid (show dropR l c = ([], false) by unfold dropR; rw [if_neg (by simp [ht])])
        go_wp2_with fail
        go_ret2
        exact ⟨_, ret_two (by rw [HT.out]), by rw [HT.out]; exact Own.empty _ _ HB.out.size, by repeat (first | with_reducible exact Below.refl _ _ | with_reducible exact HB.out | with_reducible apply Below.drew | with_reducible apply bdN | with_reducible refine Below.alloc ?_ (by first | exact Nat.le_refl _ | (simp; done) | (simp; omega) | (have := HB.out.size; simp at *; omega)) _ | with_reducible refine Below.setCell ?_ (by first | exact Nat.le_refl _ | (simp; done) | (simp; omega) | (have := HB.out.size; simp at *; omega)) _)⟩
      · have hlt := there_lt ht
        obtain ⟨k, hk⟩ : ∃ k, less l c = k := ⟨_, rfl⟩
        have HT := Lib.hid (show dropR l c = (l.take k ++ l.drop (k + 1), true) by unfold dropR; rw [if_pos ⟨hh, hc, ht⟩, hk])
        have hP := fun w' (hr : Rd w' (some ⟨b, o, none⟩) (flat l)) => l2_place l c (some ⟨b, o, none⟩) n cp w' HN.out (by omega) hr HH.out.2.1 HC.out HH.out.2.2
        unfold place at hP
        rw [if_pos ht, hk] at hP
        rw [hk, HN.out] at hlt
        have HP := Lib.hid hP
        clear hh hc ht hk hP
        go_wp2_with fail
        refine ((HP.out _ (by repeat (first | with_reducible exact HR.out | with_reducible apply Rd.drewN | with_reducible apply Rd.drew | with_reducible apply Rd.alloc)))).mono ?_
        rintro e w3 ⟨rfl, b⟩
        have Sw3 := Lib.hid b.size
        have HB := Lib.hid (chain0 (w := w) (by repeat (first | with_reducible exact Below.refl _ _ | with_reducible exact HB.out | with_reducible apply Below.drew | with_reducible apply bdN | with_reducible refine Below.alloc ?_ (by first | exact Nat.le_refl _ | (simp; done) | (simp; omega) | (have := HB.out.size; simp at *; omega)) _ | with_reducible refine Below.setCell ?_ (by first | exact Nat.le_refl _ | (simp; done) | (simp; omega) | (have := HB.out.size; simp at *; omega)) _)) b)
        have HR := Lib.hid (Rd.below (by repeat (first | with_reducible exact HR.out | with_reducible apply Rd.drewN | with_reducible apply Rd.drew | with_reducible apply Rd.alloc)) b)
        have K0 : Hid (Box _ (w.heap.size) (c)) := Lib.hid (Box.below (by repeat (first | with_reducible exact K0.out | with_reducible apply Box.drewN | with_reducible apply Box.drew | (with_reducible refine Box.newAt ?_ ?_ <;> first | (simp; done) | rfl) | with_reducible apply Box.alloc)) b)
        try clear k0a k0b k0c k0d k0z
        have k0z := K0.out.lt
        obtain ⟨k0a, k0b, k0c, k0d⟩ := K0.out.cell
        clear b
        go_wp2_with fail
        refine (l2_drop l k b o n cp _ HN.out (by omega) hcp hlt (by repeat (first | with_reducible exact HR.out | with_reducible apply Rd.drewN | with_reducible apply Rd.drew | with_reducible apply Rd.alloc))).mono ?_
        rintro e w4 ⟨u, rfl, hu, b⟩
        have HZ := Lib.hid HB.out.size
        have Sw4 := Lib.hid b.size
        have HB := Lib.hid (chain0 (w := w) (by repeat (first | with_reducible exact Below.refl _ _ | with_reducible exact HB.out | with_reducible apply Below.drew | with_reducible apply bdN | with_reducible refine Below.alloc ?_ (by first | exact Nat.le_refl _ | (simp; done) | (simp; omega) | (have := HB.out.size; simp at *; omega)) _ | with_reducible refine Below.setCell ?_ (by first | exact Nat.le_refl _ | (simp; done) | (simp; omega) | (have := HB.out.size; simp at *; omega)) _)) b)
        have HR := Lib.hid (Rd.below (by repeat (first | with_reducible exact HR.out | with_reducible apply Rd.drewN | with_reducible apply Rd.drew | with_reducible apply Rd.alloc)) b)
        have K0 : Hid (Box _ (w.heap.size) (c)) := Lib.hid (Box.below (by repeat (first | with_reducible exact K0.out | with_reducible apply Box.drewN | with_reducible apply Box.drew | (with_reducible refine Box.newAt ?_ ?_ <;> first | (simp; done) | rfl) | with_reducible apply Box.alloc)) b)
        try clear k0a k0b k0c k0d k0z
        have k0z := K0.out.lt
        obtain ⟨k0a, k0b, k0c, k0d⟩ := K0.out.cell
        clear b
        have HU := Lib.hid (hu.own.base HZ.out)
        clear hu
        go_wp2_with fail
        go_ret2
        exact ⟨_, ret_two (by rw [HT.out]), by rw [HT.out]; exact HU.out, HB.out⟩

theorem parts_drop {w : World} {ba o n cp k j : Nat} {l : List Cd} (hr : Rd w (some ⟨ba, o, none⟩) (flat l)) (hn : l.length = n) (hk : k ≤ n) (hcp : n ≤ cp) :
    ∀ i l', [l.take k, l.drop j][i]? = some l' → ∃ q c', ((w.alloc (.cells #[.slice (some ⟨ba, o, none⟩) k cp, .slice (if cp = j then some ⟨ba, o, none⟩ else some ⟨ba, o + j * 4, none⟩) (n - j) (cp - j)] 29)).drew).cell? ⟨w.heap.size, i, none⟩ = some (.slice q l'.length c') ∧ Rd ((w.alloc (.cells #[.slice (some ⟨ba, o, none⟩) k cp, .slice (if cp = j then some ⟨ba, o, none⟩ else some ⟨ba, o + j * 4, none⟩) (n - j) (cp - j)] 29)).drew) q (flat l') ∧ (q = none → c' = 0) := by
  have hTl : (l.take k).length = k := by rw [List.length_take, hn]; omega
  have hDl : (l.drop j).length = n - j := by rw [List.length_drop, hn]
  intro i l' h
  have hj : i < 2 := (List.getElem?_eq_some_iff.1 h).1
  rcases (show i = 0 ∨ i = 1 by omega) with rfl | rfl
  · simp at h; subst h
    exact ⟨_, _, by rw [cell_last _ _ _ _ _ rfl, hTl]; rfl, ((hr.alloc _).drew).take k, fun h => by cases h⟩
  · simp at h; subst h
    exact ⟨_, _, by rw [cell_last _ _ _ _ _ rfl, hDl]; rfl, ((hr.alloc _).drew).dropIf j (by rw [hn]; exact hcp), fun h => by split at h <;> cases h⟩

set_option maxRecDepth 100000 in
set_option maxHeartbeats 4000000 in
theorem impl_drop (l : List Cd) (c : Cd) (ba o n cp : Nat) (w : World) (hn : l.length = n) (hl : n ≤ 1000000000) (hr : Rd w (some ⟨ba, o, none⟩) (flat l)) (hcp : n ≤ cp) :
    Calls Try.prog 30 #[.slice (some ⟨ba, o, none⟩) n cp, c.val] w fun e w' => ∃ u, e = .returned (.tuple #[u, .bool (dropR l c).2]) ∧ Own w' w.heap.size u (dropR l c).1 ∧ Below w.heap.size w w' := by
  have HN := Lib.hid hn
  have HR := Lib.hid hr
  have HR0 := Lib.hid hr
  clear hn hr
  go_enter Try.func30, Try.ntmps30
  go_wp2_with fail
  refine ((is_hand l (some ⟨ba, o, none⟩) n cp _ HN.out hl (by repeat (first | with_reducible exact HR.out | with_reducible apply Rd.drewN | with_reducible apply Rd.drew | with_reducible apply Rd.alloc)))).mono ?_
  rintro e w1 ⟨rfl, b⟩
  have Sw1 := Lib.hid b.size
  have HB := Lib.hid (chain0 (w := w) (by repeat (first | with_reducible exact Below.refl _ _ | with_reducible exact HB.out | with_reducible apply Below.drew | with_reducible apply bdN | with_reducible refine Below.alloc ?_ (by first | exact Nat.le_refl _ | (simp; done) | (simp; omega) | (have := HB.out.size; simp at *; omega)) _ | with_reducible refine Below.setCell ?_ (by first | exact Nat.le_refl _ | (simp; done) | (simp; omega) | (have := HB.out.size; simp at *; omega)) _)) b)
  have HR := Lib.hid (Rd.below (by repeat (first | with_reducible exact HR.out | with_reducible apply Rd.drewN | with_reducible apply Rd.drew | with_reducible apply Rd.alloc)) b)
  have K0 : Hid (Box _ (w.heap.size) (c)) := Lib.hid (Box.below (by repeat (first | with_reducible exact K0.out | with_reducible apply Box.drewN | with_reducible apply Box.drew | (with_reducible refine Box.newAt ?_ ?_ <;> first | (simp; done) | rfl) | with_reducible apply Box.alloc)) b)
  try clear k0a k0b k0c k0d k0z
  have k0z := K0.out.lt
  obtain ⟨k0a, k0b, k0c, k0d⟩ := K0.out.cell
  clear b
  cases hh : handB l
  · have HT := Lib.hid (show dropR l c = ([], false) by unfold dropR; rw [if_neg (by simp [hh])])
    go_wp2_with fail
    go_ret2
    exact ⟨_, ret_two (by rw [HT.out]), by rw [HT.out]; exact Own.empty _ _ HB.out.size, by repeat (first | with_reducible exact Below.refl _ _ | with_reducible exact HB.out | with_reducible apply Below.drew | with_reducible apply bdN | with_reducible refine Below.alloc ?_ (by first | exact Nat.le_refl _ | (simp; done) | (simp; omega) | (have := HB.out.size; simp at *; omega)) _ | with_reducible refine Below.setCell ?_ (by first | exact Nat.le_refl _ | (simp; done) | (simp; omega) | (have := HB.out.size; simp at *; omega)) _)⟩
  · go_wp2_with fail
    refine ((is_card c _)).mono ?_
    rintro e w2 ⟨rfl, b⟩
    have Sw2 := Lib.hid b.size
    have HB := Lib.hid (chain0 (w := w) (by repeat (first | with_reducible exact Below.refl _ _ | with_reducible exact HB.out | with_reducible apply Below.drew | with_reducible apply bdN | with_reducible refine Below.alloc ?_ (by first | exact Nat.le_refl _ | (simp; done) | (simp; omega) | (have := HB.out.size; simp at *; omega)) _ | with_reducible refine Below.setCell ?_ (by first | exact Nat.le_refl _ | (simp; done) | (simp; omega) | (have := HB.out.size; simp at *; omega)) _)) b)
    have HR := Lib.hid (Rd.below (by repeat (first | with_reducible exact HR.out | with_reducible apply Rd.drewN | with_reducible apply Rd.drew | with_reducible apply Rd.alloc)) b)
    have K0 : Hid (Box _ (w.heap.size) (c)) := Lib.hid (Box.below (by repeat (first | with_reducible exact K0.out | with_reducible apply Box.drewN | with_reducible apply Box.drew | (with_reducible refine Box.newAt ?_ ?_ <;> first | (simp; done) | rfl) | with_reducible apply Box.alloc)) b)
    try clear k0a k0b k0c k0d k0z
    have k0z := K0.out.lt
    obtain ⟨k0a, k0b, k0c, k0d⟩ := K0.out.cell
    clear b
    cases hc : c.ok
    · have HT := Lib.hid (show dropR l c = ([], false) by unfold dropR; rw [if_neg (by simp [hc])])
      go_wp2_with fail
      go_ret2
      exact ⟨_, ret_two (by rw [HT.out]), by rw [HT.out]; exact Own.empty _ _ HB.out.size, by repeat (first | with_reducible exact Below.refl _ _ | with_reducible exact HB.out | with_reducible apply Below.drew | with_reducible apply bdN | with_reducible refine Below.alloc ?_ (by first | exact Nat.le_refl _ | (simp; done) | (simp; omega) | (have := HB.out.size; simp at *; omega)) _ | with_reducible refine Below.setCell ?_ (by first | exact Nat.le_refl _ | (simp; done) | (simp; omega) | (have := HB.out.size; simp at *; omega)) _)⟩
    · have HH := Lib.hid (handB_true.1 hh)
      have HC := Lib.hid hc
      have hn27 : n ≤ 27 := by have := HH.out.1; have := HN.out; omega
      go_wp2_with fail
      refine ((place_in l c (some ⟨ba, o, none⟩) n cp _ HN.out (by omega) (by repeat (first | with_reducible exact HR.out | with_reducible apply Rd.drewN | with_reducible apply Rd.drew | with_reducible apply Rd.alloc)) HH.out.2.1 HC.out HH.out.2.2)).mono ?_
      rintro e w3 ⟨rfl, b⟩
      have Sw3 := Lib.hid b.size
      have HB := Lib.hid (chain0 (w := w) (by repeat (first | with_reducible exact Below.refl _ _ | with_reducible exact HB.out | with_reducible apply Below.drew | with_reducible apply bdN | with_reducible refine Below.alloc ?_ (by first | exact Nat.le_refl _ | (simp; done) | (simp; omega) | (have := HB.out.size; simp at *; omega)) _ | with_reducible refine Below.setCell ?_ (by first | exact Nat.le_refl _ | (simp; done) | (simp; omega) | (have := HB.out.size; simp at *; omega)) _)) b)
      have HR := Lib.hid (Rd.below (by repeat (first | with_reducible exact HR.out | with_reducible apply Rd.drewN | with_reducible apply Rd.drew | with_reducible apply Rd.alloc)) b)
      have K0 : Hid (Box _ (w.heap.size) (c)) := Lib.hid (Box.below (by repeat (first | with_reducible exact K0.out | with_reducible apply Box.drewN | with_reducible apply Box.drew | (with_reducible refine Box.newAt ?_ ?_ <;> first | (simp; done) | rfl) | with_reducible apply Box.alloc)) b)
      try clear k0a k0b k0c k0d k0z
      have k0z := K0.out.lt
      obtain ⟨k0a, k0b, k0c, k0d⟩ := K0.out.cell
      clear b
      cases ht : there l c
      · have HT := Lib.hid (show dropR l c = ([], false) by unfold dropR; rw [if_neg (by simp [ht])])
        go_wp2_with fail
        go_ret2
        exact ⟨_, ret_two (by rw [HT.out]), by rw [HT.out]; exact Own.empty _ _ HB.out.size, by repeat (first | with_reducible exact Below.refl _ _ | with_reducible exact HB.out | with_reducible apply Below.drew | with_reducible apply bdN | with_reducible refine Below.alloc ?_ (by first | exact Nat.le_refl _ | (simp; done) | (simp; omega) | (have := HB.out.size; simp at *; omega)) _ | with_reducible refine Below.setCell ?_ (by first | exact Nat.le_refl _ | (simp; done) | (simp; omega) | (have := HB.out.size; simp at *; omega)) _)⟩
      · have hlt := there_lt ht
        obtain ⟨k, hk⟩ : ∃ k, less l c = k := ⟨_, rfl⟩
        rw [hk, HN.out] at hlt
        rw [hk]
        obtain ⟨j, hj⟩ : ∃ j, k + 1 = j := ⟨_, rfl⟩
        have hwr : IntKind.i64.wrap ((k : Int) + 1) = (j : Int) := by rw [IntKind.wrap_i64]; omega
        have HT := Lib.hid (show dropR l c = (l.take k ++ l.drop j, true) by unfold dropR; rw [if_pos ⟨hh, hc, ht⟩, hk, hj])
        have k0' : (0 : Int) ≤ (k : Int) := by omega
        have k1' : (k : Int) ≤ (n : Int) := by omega
        have k2' : (k : Int) ≤ (cp : Int) := by omega
        have j0' : (0 : Int) ≤ (j : Int) := by omega
        have j1' : (j : Int) ≤ (n : Int) := by omega
        have j2' : (j : Int) ≤ (cp : Int) := by omega
        clear hh hc ht hk hj
        have HPl := Lib.hid (show ([l.take k, l.drop j] : List (List Cd)).flatten.length ≤ 1000000 by have := HN.out; simp; omega)
        have HPf := Lib.hid (show ([l.take k, l.drop j] : List (List Cd)).flatten = l.take k ++ l.drop j by simp)
        have HPp := Lib.hid (parts_drop (k := k) (j := j) HR.out HN.out (by omega) hcp)
        have hz4 := HB.out.size
        go_wp2_with fail
        go_region_law (go_simp; go_at_call 99; refine (concat [l.take k, l.drop j] w3.heap.size 2 2 _ rfl (by omega) HPl.out (by simp) HPp.out).mono ?_; rintro e w5 ⟨u, rfl, hu, b⟩; have HU : Hid (Own w5 w.heap.size u (l.take k ++ l.drop j)) := Lib.hid (by rw [← HPf.out]; exact hu.base (by simp; omega)); have HB := Lib.hid (chain0 (w := w) (by repeat (first | with_reducible exact Below.refl _ _ | with_reducible exact HB.out | with_reducible apply Below.drew | with_reducible apply bdN | with_reducible refine Below.alloc ?_ (by first | exact Nat.le_refl _ | (simp; done) | (simp; omega) | (have := HB.out.size; simp at *; omega)) _ | with_reducible refine Below.setCell ?_ (by first | exact Nat.le_refl _ | (simp; done) | (simp; omega) | (have := HB.out.size; simp at *; omega)) _)) b); clear hu)
        all_goals
          go_wp2_with fail
          all_goals go_ret2
          all_goals exact ⟨_, ret_two (by rw [HT.out]), by rw [HT.out]; exact HU.out, HB.out⟩
theorem spec_drop2 (l : List Cd) (c : Cd) (hwf : wf4 c) (p : Option Addr) (n cp : Nat) (w : World) (hn : l.length = n) (hl : n ≤ 1000000000) (hr : Rd w p (flat l)) (h : n ≤ cp ∧ ∃ b o, p = some ⟨b, o, none⟩) :
    Calls Try.prog 29 #[.slice p n cp, c.val] w fun e w' => ∃ u, e = .returned (.tuple #[u, .bool (dropR l c).2]) ∧ Own w' w.heap.size u (dropR l c).1 ∧ Below w.heap.size w w' := by
  obtain ⟨hcp, b, o, rfl⟩ := h
  exact spec_drop l c b o n cp w hn hl hr hcp hwf
theorem impl_drop2 (l : List Cd) (c : Cd) (hwf : wf4 c) (p : Option Addr) (n cp : Nat) (w : World) (hn : l.length = n) (hl : n ≤ 1000000000) (hr : Rd w p (flat l)) (h : n ≤ cp ∧ ∃ b o, p = some ⟨b, o, none⟩) :
    Calls Try.prog 30 #[.slice p n cp, c.val] w fun e w' => ∃ u, e = .returned (.tuple #[u, .bool (dropR l c).2]) ∧ Own w' w.heap.size u (dropR l c).1 ∧ Below w.heap.size w w' := by
  obtain ⟨hcp, b, o, rfl⟩ := h
  exact impl_drop l c b o n cp w hn hl hr hcp
end Go.Proofs.Ytbimbaogjknboab.cards
