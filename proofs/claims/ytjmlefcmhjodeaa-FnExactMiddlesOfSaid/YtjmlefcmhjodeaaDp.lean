/- DropCard: the program and the model alike, for a card that is none too. -/
import Derived.Test.YtjmlefcmhjodeaaPc
namespace Go.Proofs.Ytjmlefcmhjodeaa.cards
open Go.RowKit
set_option linter.unusedVariables false

/-- Four numbers of 64 bits. -/
def wf4 (x : Cd) : Prop := (Lit.int .i64 x.a).wf = true ∧ (Lit.int .i64 x.b).wf = true ∧ (Lit.int .i64 x.c).wf = true ∧ (Lit.int .i64 x.d).wf = true
theorem wf4_ok {x : Cd} (h : x.ok = true) : wf4 x := by
  obtain ⟨⟨x1, x2⟩, ⟨x3, x4⟩, ⟨x5, x6⟩, x7, x8⟩ := Cd.bd h
  exact ⟨wf_small x1 (by omega), wf_small x3 (by omega), wf_small x5 (by omega), wf_small x7 (by omega)⟩
theorem key_litsW (x : Cd) (h : wf4 x) : (Try.prog).keyLits 3 25 x.val.cells.toList = some (lits x) := by
  obtain ⟨w1, w2, w3, w4⟩ := h
  have ce : (Try.prog).cellsOf 3 = 1 := by kernel_rfl
  have ct : (Try.prog).cellsOf 25 = 4 := by kernel_rfl
  simp [Program.keyLits, Try.underlying25, Try.underlying3, Value.cells, ce, ct, w1, w2, w3, w4, show List.range 4 = [0, 1, 2, 3] from rfl, lits]
theorem eq_runW (x y : Cd) (hx : wf4 x) (hy : wf4 y) (w : World) : (Op.equalIn 10000 25 x.val y.val).run Try.prog w = .ok (same x y) w := by
  obtain ⟨r, hr, hi⟩ := run_equalIn_deep (P := Try.prog) 9998 2 25 (by kernel_rfl) w 3 3 x.val y.val (lits x) (lits y) (by kernel_rfl) (by kernel_rfl) (key_litsW x hx) (key_litsW y hy)
  have e : r = same x y := by
    rw [Bool.eq_iff_iff, hi]
    simp [lits, same]
  rw [← e]
  exact hr
theorem same_bad {x c : Cd} (hx : x.ok = true) (hc : c.ok = false) : same x c = false := by
  rw [Bool.eq_false_iff]; intro h
  rw [same_iff.1 h] at hx
  rw [hx] at hc; cases hc

set_option maxRecDepth 100000 in
set_option maxHeartbeats 2000000 in
theorem place_bad (l : List Cd) (c : Cd) (p : Option Addr) (n cp : Nat) (w : World) (hn : l.length = n) (hl : n ≤ 1000) (hr : Rd w p (flat l)) (hok : l.all Cd.ok = true) (hw : wf4 c) (hc : c.ok = false) :
    Calls Try.prog 90 #[.slice p n cp, c.val] w fun e w' => e = .returned (.int .i64 (-1)) ∧ Below w.heap.size w w' := by
  have HN := Lib.hid hn
  have HR := Lib.hid hr
  have HK := Lib.hid hok
  have HW := Lib.hid hw
  have HC := Lib.hid hc
  clear hn hr hok hw hc
  go_enter Try.func90, Try.ntmps90
  go_wp2_with fail
  go_loopw [5] (fun i wr => ∃ k : Nat, k ≤ n ∧ i = .int .i64 k ∧ Hid (Below w.heap.size w wr) ∧ Hid (Box wr w.heap.size c)) (fun i _ => n - (intOf i).toNat)
  case atStart => exact ⟨0, Nat.zero_le _, rfl, Lib.hid (by repeat (first | with_reducible exact Below.refl _ _ | with_reducible exact HB.out | with_reducible apply Below.drew | with_reducible apply bdN | with_reducible refine Below.alloc ?_ (by first | exact Nat.le_refl _ | with_reducible exact HB.out.size | omega | (simp; done) | (simp; omega) | (have := HB.out.size; simp at *; omega)) _ | with_reducible refine Below.setCell ?_ (by first | exact Nat.le_refl _ | with_reducible exact HB.out.size | omega | (simp; done) | (simp; omega) | (have := HB.out.size; simp at *; omega)) _)), Lib.hid (by repeat (first | with_reducible exact HB.out | with_reducible apply Box.drewN | with_reducible apply Box.drew | (with_reducible refine Box.newAt ?_ ?_ <;> first | (simp; done) | rfl) | with_reducible apply Box.alloc))⟩
  case round =>
    obtain ⟨k, hk, rfl, HB, K0⟩ := hrel
    obtain ⟨k0a, k0b, k0c, k0d⟩ := K0.out.cell
    by_cases hlt : k < n
    · obtain ⟨b, o, x, rfl, hb, hx, c0, c1, c2, c3⟩ := (HR.out.below HB.out).card (k := k) (by rw [HN.out]; exact hlt)
      have he := eq_runW x c (wf4_ok (ok_at HK.out hx)) HW.out
      rw [same_bad (ok_at HK.out hx) HC.out] at he
      clear hx
      have m0 : (0 : Int) ≤ (k : Int) := by omega
      have m1 : (k : Int) < (n : Int) := by omega
      go_wp2_with fail
      have qk0a := fun d os => cell_regrown k0a d os
      have qk0b := fun d os => cell_regrown k0b d os
      have qk0c := fun d os => cell_regrown k0c d os
      have qk0d := fun d os => cell_regrown k0d d os
      have qc0 := fun d os => cell_regrown c0 d os
      have qc1 := fun d os => cell_regrown c1 d os
      have qc2 := fun d os => cell_regrown c2 d os
      have qc3 := fun d os => cell_regrown c3 d os
      refine wp_region_quiet_below (by kernel_rfl) (by kernel_rfl) ?_
      repeat (first | go_big_quiet_step ((fail)) | quiet_step ((fail)))
      refine wpQuiet_nil ?_
      intro w3 hw2
      have b : Below wr.heap.size wr w3 := by obtain ⟨r, hr⟩ := hw2; rw [hr]; exact below_regrown _ _ _
      clear hw2 qc0 qc1 qc2 qc3 qk0a qk0b qk0c qk0d
      have Sw3 := Lib.hid b.size
      have HB := Lib.hid (chain0 (w := w) (by repeat (first | with_reducible exact Below.refl _ _ | with_reducible exact HB.out | with_reducible apply Below.drew | with_reducible apply bdN | with_reducible refine Below.alloc ?_ (by first | exact Nat.le_refl _ | with_reducible exact HB.out.size | omega | (simp; done) | (simp; omega) | (have := HB.out.size; simp at *; omega)) _ | with_reducible refine Below.setCell ?_ (by first | exact Nat.le_refl _ | with_reducible exact HB.out.size | omega | (simp; done) | (simp; omega) | (have := HB.out.size; simp at *; omega)) _)) b)
      have K0 : Hid (Box _ (w.heap.size) (c)) := Lib.hid (Box.below (by repeat (first | with_reducible exact K0.out | with_reducible apply Box.drewN | with_reducible apply Box.drew | (with_reducible refine Box.newAt ?_ ?_ <;> first | (simp; done) | rfl) | with_reducible apply Box.alloc)) b)
      try clear k0a k0b k0c k0d k0z
      have k0z := K0.out.lt
      obtain ⟨k0a, k0b, k0c, k0d⟩ := K0.out.cell
      clear b
      clear c0 c1 c2 c3 he
      go_wp2_with fail
      go_roundw
      case rel => exact ⟨k + 1, by omega, by go_num, HB, K0⟩
      case measure => simp [intOf]; omega
    · obtain rfl : k = n := by omega
      go_wp2_with fail
      go_ret
      exact ⟨rfl, HB.out⟩

set_option maxRecDepth 100000 in
set_option maxHeartbeats 4000000 in
theorem l2_drop (l : List Cd) (k ba o n cp : Nat) (w : World) (hn : l.length = n) (hl : n ≤ 1000) (hcp : n ≤ cp) (hk : k < n) (hr : Rd w (some ⟨ba, o, none⟩) (flat l)) :
    Calls Try.prog 104 #[.slice (some ⟨ba, o, none⟩) n cp, .int .i64 k] w fun e w' => ∃ u, e = .returned u ∧ OwnN w' w.heap.size u (l.take k ++ l.drop (k + 1)) ∧ Below w.heap.size w w' := by
  have HN := Lib.hid hn
  have HR0 := Lib.hid hr
  obtain ⟨j, hj⟩ : ∃ j, k + 1 = j := ⟨_, rfl⟩
  have hwr : IntKind.i64.wrap ((k : Int) + 1) = (j : Int) := by rw [IntKind.wrap_i64]; omega
  rw [hj]
  have HJ := Lib.hid hj
  have HRt := Lib.hid (hr.take k)
  have HRd := Lib.hid (hr.dropIf (cp := cp) j (by rw [hn]; exact hcp))
  have hTl : (l.take k).length = k := by rw [List.length_take, hn]; omega
  have hDl : (l.drop j).length = n - j := by rw [List.length_drop, hn]
  have HTl := Lib.hid hTl
  have HDl := Lib.hid hDl
  have hcpl : l.length ≤ cp := by rw [hn]; exact hcp
  have HCp := Lib.hid hcpl
  have m0 : (0 : Int) ≤ (k : Int) := by omega
  have m1 : (k : Int) < (n : Int) := by omega
  have m2 : (k : Int) ≤ (cp : Int) := by omega
  have m3 : (0 : Int) ≤ (j : Int) := by omega
  have m4 : (j : Int) ≤ (n : Int) := by omega
  have m5 : (j : Int) ≤ (cp : Int) := by omega
  clear hn hr hTl hDl hcpl hj
  go_enter Try.func104, Try.ntmps104
  go_wp2_with fail
  have HB := Lib.hid (Below.refl w.heap.size w)
  go_region_law (first
    | (go_simp; go_at_call 105; refine (l2_own (l.take k) (some ⟨ba, o, none⟩) k cp _ HTl.out (by omega) (by repeat (first | with_reducible exact HRt.out | with_reducible apply Rd.drewN | with_reducible apply Rd.drew | with_reducible apply Rd.alloc)) (fun h => by cases h)).mono ?_; rintro e w5 ⟨u, rfl, hu, b⟩; have HU : Hid (OwnN w5 w.heap.size u (l.take k)) := Lib.hid (hu.base (by simp)); have HB := Lib.hid (chain0 (w := w) (by repeat (first | with_reducible exact Below.refl _ _ | with_reducible exact HB.out | with_reducible apply Below.drew | with_reducible apply bdN | with_reducible refine Below.alloc ?_ (by first | exact Nat.le_refl _ | with_reducible exact HB.out.size | omega | (simp; done) | (simp; omega) | (have := HB.out.size; simp at *; omega)) _ | with_reducible refine Below.setCell ?_ (by first | exact Nat.le_refl _ | with_reducible exact HB.out.size | omega | (simp; done) | (simp; omega) | (have := HB.out.size; simp at *; omega)) _)) b); have HRt := Lib.hid (Rd.below (by repeat (first | with_reducible exact HRt.out | with_reducible apply Rd.drewN | with_reducible apply Rd.drew | with_reducible apply Rd.alloc)) b); have HRd := Lib.hid ((HR0.out.below HB.out).dropIf (cp := cp) j HCp.out); clear hu)
    | (refine step_append_cards rfl (.tmp 8) (.tmp 12) rfl w.heap.size u (l.take k) (l.drop j) _ _ _ rfl rfl ?_ ?_ ?_ ?_ ?_ ?_ ?_
       · first | exact HU.out | exact HU.out.drew
       · first | exact HDl.out | (rw [HDl.out]; simp; done) | (rw [HDl.out]; omega)
       · exact HRd.out
       · intro h; split at h <;> cases h
       · have := HTl.out; simp; omega
       · exact HB.out.size
       intro v1 w6 hO1 hB1 hG1
       have HO1 := Lib.hid hO1
       have HB := Lib.hid (HB.out.trans hB1)
       clear hO1 hB1 hG1))
  all_goals
    go_wp2_with fail
    all_goals go_ret
    all_goals exact ⟨_, rfl, HO1.out, HB.out⟩

noncomputable def dropR (l : List Cd) (c : Cd) : List Cd × Bool := if handB l = true ∧ c.ok = true ∧ there l c = true then (l.take (less l c) ++ l.drop (less l c + 1), true) else ([], false)
theorem dropR_len (l : List Cd) (c : Cd) : (dropR l c).1.length ≤ 1000 := by
  unfold dropR
  split
  · rename_i h
    have h1 := (handB_true.1 h.1).1
    show (l.take (less l c) ++ l.drop (less l c + 1)).length ≤ _
    rw [List.length_append, List.length_take, List.length_drop]; omega
  · simp

theorem parts_drop {w : World} {ba o n cp k j : Nat} {l : List Cd} (hr : Rd w (some ⟨ba, o, none⟩) (flat l)) (hn : l.length = n) (hk : k ≤ n) (hcp : n ≤ cp) :
    ∀ i l', [l.take k, l.drop j][i]? = some l' → ∃ q c', ((w.alloc (.cells #[.slice (some ⟨ba, o, none⟩) k cp, .slice (if cp = j then some ⟨ba, o, none⟩ else some ⟨ba, o + j * 4, none⟩) (n - j) (cp - j)] 26)).drew).cell? ⟨w.heap.size, i, none⟩ = some (.slice q l'.length c') ∧ Rd ((w.alloc (.cells #[.slice (some ⟨ba, o, none⟩) k cp, .slice (if cp = j then some ⟨ba, o, none⟩ else some ⟨ba, o + j * 4, none⟩) (n - j) (cp - j)] 26)).drew) q (flat l') ∧ (q = none → c' = 0) := by
  have hTl : (l.take k).length = k := by rw [List.length_take, hn]; omega
  have hDl : (l.drop j).length = n - j := by rw [List.length_drop, hn]
  intro i l' h
  have hj : i < 2 := (List.getElem?_eq_some_iff.1 h).1
  rcases (show i = 0 ∨ i = 1 by omega) with rfl | rfl
  · simp at h; subst h
    exact ⟨_, _, by rw [cell_last _ _ _ _ _ rfl, hTl]; rfl, ((hr.alloc _).drew).take k, fun h => by cases h⟩
  · simp at h; subst h
    exact ⟨_, _, by rw [cell_last _ _ _ _ _ rfl, hDl]; rfl, ((hr.alloc _).drew).dropIf j (by rw [hn]; exact hcp), fun h => by split at h <;> cases h⟩

end Go.Proofs.Ytjmlefcmhjodeaa.cards
