/- The model's copy of a hand, and a card put into one. -/
import Derived.Test.YtnibkipepmakgaaAv
import Derived.Test.YtnibkipepmakgaaPm
namespace Go.Proofs.Ytnibkipepmakgaa.cards
open Go.RowKit
set_option linter.unusedVariables false

set_option maxRecDepth 100000 in
set_option maxHeartbeats 2000000 in
theorem l2_own (l : List Cd) (p : Option Addr) (n cp : Nat) (w : World) (hn : l.length = n) (hl : n ≤ 1000000) (hr : Rd w p (flat l)) (h0 : p = none → cp = 0) :
    Calls Try.prog 49 #[.slice p n cp] w fun e w' => ∃ u, e = .returned u ∧ OwnN w' w.heap.size u l ∧ Below w.heap.size w w' := by
  have HN := Lib.hid hn
  have HR := Lib.hid hr
  have H0 := Lib.hid h0
  have HO := Lib.hid (OwnN.empty w w.heap.size (Nat.le_refl _))
  clear hn hr h0
  go_enter Try.func49, Try.ntmps49
  have hb0 : Below w.heap.size w (w.alloc (.cells #[] 54)) := (Below.refl _ _).alloc (Nat.le_refl _) _
  have HB0 := Lib.hid hb0
  clear hb0
  go_wp2_with (at_builtin; refine list_append_cards rfl (.tmp 3) (.tmp 4) rfl w.heap.size _ [] l p n cp _ rfl rfl HO.out.1 HN.out (HR.out.alloc _) H0.out (by simp; omega) HB0.out.size ?_; intro v1 w1 hO1 hN1 hB1 hG1)
  go_ret
  exact ⟨_, rfl, ⟨hO1, hN1 HO.out.2⟩, HB0.out.trans hB1⟩

theorem Box.rd1 {w : World} {g : Nat} {c : Cd} (h : Box w g c) : Rd w (some ⟨g, 0, none⟩) (flat [c]) := Rd.of_block h rfl
theorem Rd.dropIf {w : World} {b o cp : Nat} {l : List Cd} (h : Rd w (some ⟨b, o, none⟩) (flat l)) (k : Nat) (hk : l.length ≤ cp) : Rd w (if cp = k then some ⟨b, o, none⟩ else some ⟨b, o + k * 4, none⟩) (flat (l.drop k)) := by
  split
  · rename_i e
    subst e
    rw [List.drop_eq_nil_of_le hk]
    intro hp; simp [flat] at hp
  · exact h.drop k
theorem same_at {l : List Cd} {c x : Cd} (hs : sorted l) (hok : l.all Cd.ok = true) (hc : c.ok = true) (hx : l[less l c]? = some x) : same x c = there l c := by
  rw [same_num (ok_at hok hx) hc, Bool.eq_iff_iff, decide_eq_true_eq]
  constructor
  · intro h; exact ((place_is (t := c) hs hx).1 h).1
  · intro h
    obtain ⟨z, hz, hn⟩ := of_decide_eq_true h
    rw [hx] at hz; injection hz with hz; subst hz; exact hn
theorem there_end {l : List Cd} {c : Cd} (h : l.length ≤ less l c) : there l c = false := by
  rw [Bool.eq_false_iff]; intro hh
  have := there_lt hh; omega

set_option maxRecDepth 100000 in
set_option maxHeartbeats 4000000 in
theorem l2_put (l : List Cd) (c : Cd) (ba o n cp : Nat) (w : World) (hn : l.length = n) (hl : n ≤ 1000) (hcp : n ≤ cp) (hr : Rd w (some ⟨ba, o, none⟩) (flat l)) (hok : l.all Cd.ok = true) (hc : c.ok = true) (hs : sorted l) :
    Calls Try.prog 39 #[.slice (some ⟨ba, o, none⟩) n cp, c.val] w fun e w' => ∃ u, e = .returned u ∧ OwnN w' w.heap.size u (put l c) ∧ Below w.heap.size w w' := by
  have HN := Lib.hid hn
  have HR0 := Lib.hid hr
  have HS := Lib.hid hs
  have HK := Lib.hid hok
  have HC := Lib.hid hc
  clear hn hr hs hok hc
  go_enter Try.func39, Try.ntmps39
  go_wp2_with fail
  go_loopw [5] (fun i wr => ∃ k : Nat, k ≤ n ∧ i = .int .i64 k ∧ Hid (∀ j x, j < k → l[j]? = some x → num x < num c) ∧ Hid (Below w.heap.size w wr) ∧ Hid (Box wr w.heap.size c)) (fun i _ => n - (intOf i).toNat)
  case atStart => exact ⟨0, Nat.zero_le _, rfl, Lib.hid (fun j x hj => absurd hj (Nat.not_lt_zero j)), Lib.hid (by repeat (first | with_reducible exact Below.refl _ _ | with_reducible exact HB.out | with_reducible apply Below.drew | with_reducible apply bdN | with_reducible refine Below.alloc ?_ (by first | exact Nat.le_refl _ | with_reducible exact HB.out.size | omega | (simp; done) | (simp; omega) | (have := HB.out.size; simp at *; omega)) _ | with_reducible refine Below.setCell ?_ (by first | exact Nat.le_refl _ | with_reducible exact HB.out.size | omega | (simp; done) | (simp; omega) | (have := HB.out.size; simp at *; omega)) _)), Lib.hid (by repeat (first | with_reducible exact HB.out | with_reducible apply Box.drewN | with_reducible apply Box.drew | (with_reducible refine Box.newAt ?_ ?_ <;> first | (simp; done) | rfl) | with_reducible apply Box.alloc))⟩
  case round =>
    obtain ⟨k, hk, rfl, HF, HB, K0⟩ := hrel
    obtain ⟨k0a, k0b, k0c, k0d⟩ := K0.out.cell
    have k0z := K0.out.lt
    have HR := Lib.hid (HR0.out.below HB.out)
    have m0 : (0 : Int) ≤ (k : Int) := by omega
    have m2 : (k : Int) ≤ (cp : Int) := by omega
    have m3 : (k : Int) ≤ (n : Int) := by omega
    have hTl : (l.take k).length = k := by rw [List.length_take, HN.out]; omega
    have hDl : (l.drop k).length = n - k := by rw [List.length_drop, HN.out]
    have HTl := Lib.hid hTl
    have HDl := Lib.hid hDl
    clear hTl hDl
    by_cases hlt : k < n
    · obtain ⟨b', o', x, hbo, hb, hx, c0, c1, c2, c3⟩ := HR.out.card (k := k) (by rw [HN.out]; exact hlt)
      injection hbo with hbo
      injection hbo with e1 e2
      subst e1; subst e2
      have HXa := Lib.hid hx
      have HX := Lib.hid (ok_at HK.out hx)
      have m1 : (k : Int) < (n : Int) := by omega
      clear hx
      have HL := fun w' => l2_less x c w' HX.out HC.out
      by_cases hxc : num x < num c
      · rw [decide_eq_true hxc] at HL
        have HL2 := Lib.hid HL
        clear HL
        go_wp2_with fail
        have qk0a := fun d os => cell_regrown k0a d os
        have qk0b := fun d os => cell_regrown k0b d os
        have qk0c := fun d os => cell_regrown k0c d os
        have qk0d := fun d os => cell_regrown k0d d os
        have qc0 := fun d os => cell_regrown c0 d os
        have qc1 := fun d os => cell_regrown c1 d os
        have qc2 := fun d os => cell_regrown c2 d os
        have qc3 := fun d os => cell_regrown c3 d os
        refine wp_region_quiet_below (by kernel_rfl) (by kernel_rfl) ?_
        repeat (first | go_big_quiet_step ((go_at_call 44; with_reducible exact Calls.regrown_of (HL2.out _))) | quiet_step ((go_at_call 44; with_reducible exact Calls.regrown_of (HL2.out _))))
        refine wpQuiet_nil ?_
        intro w3 hw2
        have b : Below wr.heap.size wr w3 := by obtain ⟨r, hr⟩ := hw2; rw [hr]; exact below_regrown _ _ _
        clear hw2 qc0 qc1 qc2 qc3 qk0a qk0b qk0c qk0d
        have Sw3 := Lib.hid b.size
        have HB := Lib.hid (chain0 (w := w) (by repeat (first | with_reducible exact Below.refl _ _ | with_reducible exact HB.out | with_reducible apply Below.drew | with_reducible apply bdN | with_reducible refine Below.alloc ?_ (by first | exact Nat.le_refl _ | with_reducible exact HB.out.size | omega | (simp; done) | (simp; omega) | (have := HB.out.size; simp at *; omega)) _ | with_reducible refine Below.setCell ?_ (by first | exact Nat.le_refl _ | with_reducible exact HB.out.size | omega | (simp; done) | (simp; omega) | (have := HB.out.size; simp at *; omega)) _)) b)
        have HR := Lib.hid (Rd.below (by repeat (first | with_reducible exact HR.out | with_reducible apply Rd.drewN | with_reducible apply Rd.drew | with_reducible apply Rd.alloc)) b)
        have K0 : Hid (Box _ (w.heap.size) (c)) := Lib.hid (Box.below (by repeat (first | with_reducible exact K0.out | with_reducible apply Box.drewN | with_reducible apply Box.drew | (with_reducible refine Box.newAt ?_ ?_ <;> first | (simp; done) | rfl) | with_reducible apply Box.alloc)) b)
        try clear k0a k0b k0c k0d k0z
        have k0z := K0.out.lt
        obtain ⟨k0a, k0b, k0c, k0d⟩ := K0.out.cell
        clear b
        clear c0 c1 c2 c3
        go_wp2_with fail
        go_roundw
        case rel => exact ⟨k + 1, by omega, by go_num, Lib.hid (fun j y hj hy => by
            by_cases hjk : j < k
            · exact HF.out j y hjk hy
            · obtain rfl : j = k := by omega
              have := HXa.out
              rw [hy] at this; injection this with this; subst this; exact hxc), HB, K0⟩
        case measure => simp [intOf]; omega
      · rw [decide_eq_false hxc] at HL
        have HL2 := Lib.hid HL
        have HKe := Lib.hid (show k = less l c from less_is (by rw [HN.out]; exact hk) HF.out (fun y hy => by have := HXa.out; rw [hy] at this; injection this with this; subst this; exact hxc))
        have hsa : same x c = there l c := same_at HS.out HK.out HC.out (by rw [← HKe.out]; exact HXa.out)
        have HSa := Lib.hid hsa
        clear hsa
        clear HL
        go_wp2_with fail
        have qk0a := fun d os => cell_regrown k0a d os
        have qk0b := fun d os => cell_regrown k0b d os
        have qk0c := fun d os => cell_regrown k0c d os
        have qk0d := fun d os => cell_regrown k0d d os
        have qc0 := fun d os => cell_regrown c0 d os
        have qc1 := fun d os => cell_regrown c1 d os
        have qc2 := fun d os => cell_regrown c2 d os
        have qc3 := fun d os => cell_regrown c3 d os
        refine wp_region_quiet_below (by kernel_rfl) (by kernel_rfl) ?_
        repeat (first | go_big_quiet_step ((go_at_call 44; with_reducible exact Calls.regrown_of (HL2.out _))) | quiet_step ((go_at_call 44; with_reducible exact Calls.regrown_of (HL2.out _))))
        refine wpQuiet_nil ?_
        intro w3 hw2
        have b : Below wr.heap.size wr w3 := by obtain ⟨r, hr⟩ := hw2; rw [hr]; exact below_regrown _ _ _
        clear hw2 qc0 qc1 qc2 qc3 qk0a qk0b qk0c qk0d
        have Sw3 := Lib.hid b.size
        have HB := Lib.hid (chain0 (w := w) (by repeat (first | with_reducible exact Below.refl _ _ | with_reducible exact HB.out | with_reducible apply Below.drew | with_reducible apply bdN | with_reducible refine Below.alloc ?_ (by first | exact Nat.le_refl _ | with_reducible exact HB.out.size | omega | (simp; done) | (simp; omega) | (have := HB.out.size; simp at *; omega)) _ | with_reducible refine Below.setCell ?_ (by first | exact Nat.le_refl _ | with_reducible exact HB.out.size | omega | (simp; done) | (simp; omega) | (have := HB.out.size; simp at *; omega)) _)) b)
        have HR := Lib.hid (Rd.below (by repeat (first | with_reducible exact HR.out | with_reducible apply Rd.drewN | with_reducible apply Rd.drew | with_reducible apply Rd.alloc)) b)
        have K0 : Hid (Box _ (w.heap.size) (c)) := Lib.hid (Box.below (by repeat (first | with_reducible exact K0.out | with_reducible apply Box.drewN | with_reducible apply Box.drew | (with_reducible refine Box.newAt ?_ ?_ <;> first | (simp; done) | rfl) | with_reducible apply Box.alloc)) b)
        try clear k0a k0b k0c k0d k0z
        have k0z := K0.out.lt
        obtain ⟨k0a, k0b, k0c, k0d⟩ := K0.out.cell
        clear b
        clear c0 c1 c2 c3
        obtain ⟨c0, c1, c2, c3⟩ := HR.out.at_ HXa.out
        have he := eq_run x c HX.out HC.out
        cases ht : there l c
        · have hsa := HSa.out
          rw [ht] at hsa
          have HP := Lib.hid (show put l c = (l.take k ++ [c]) ++ l.drop k by unfold put; rw [if_neg (by simp [ht]), ← HKe.out]; simp)
          rw [hsa] at he
          clear ht hsa
          go_wp2_with fail
          have qk0a := fun d os => cell_regrown k0a d os
          have qk0b := fun d os => cell_regrown k0b d os
          have qk0c := fun d os => cell_regrown k0c d os
          have qk0d := fun d os => cell_regrown k0d d os
          have qc0 := fun d os => cell_regrown c0 d os
          have qc1 := fun d os => cell_regrown c1 d os
          have qc2 := fun d os => cell_regrown c2 d os
          have qc3 := fun d os => cell_regrown c3 d os
          refine wp_region_quiet_below (by kernel_rfl) (by kernel_rfl) ?_
          repeat (first | go_big_quiet_step ((fail)) | quiet_step ((fail)))
          refine wpQuiet_nil ?_
          intro w4 hw2
          have b : Below w3.heap.size w3 w4 := by obtain ⟨r, hr⟩ := hw2; rw [hr]; exact below_regrown _ _ _
          clear hw2 qc0 qc1 qc2 qc3 qk0a qk0b qk0c qk0d
          have Sw4 := Lib.hid b.size
          have HB := Lib.hid (chain0 (w := w) (by repeat (first | with_reducible exact Below.refl _ _ | with_reducible exact HB.out | with_reducible apply Below.drew | with_reducible apply bdN | with_reducible refine Below.alloc ?_ (by first | exact Nat.le_refl _ | with_reducible exact HB.out.size | omega | (simp; done) | (simp; omega) | (have := HB.out.size; simp at *; omega)) _ | with_reducible refine Below.setCell ?_ (by first | exact Nat.le_refl _ | with_reducible exact HB.out.size | omega | (simp; done) | (simp; omega) | (have := HB.out.size; simp at *; omega)) _)) b)
          have HR := Lib.hid (Rd.below (by repeat (first | with_reducible exact HR.out | with_reducible apply Rd.drewN | with_reducible apply Rd.drew | with_reducible apply Rd.alloc)) b)
          have K0 : Hid (Box _ (w.heap.size) (c)) := Lib.hid (Box.below (by repeat (first | with_reducible exact K0.out | with_reducible apply Box.drewN | with_reducible apply Box.drew | (with_reducible refine Box.newAt ?_ ?_ <;> first | (simp; done) | rfl) | with_reducible apply Box.alloc)) b)
          try clear k0a k0b k0c k0d k0z
          have k0z := K0.out.lt
          obtain ⟨k0a, k0b, k0c, k0d⟩ := K0.out.cell
          clear b
          clear c0 c1 c2 c3 he
          obtain ⟨W4, hW4⟩ : ∃ W4 : World, W4 = w4 := ⟨_, rfl⟩
          go_wp2_with fail
          have HRt := Lib.hid (HR.out.take k)
          have hcpl : l.length ≤ cp := by rw [HN.out]; exact hcp
          have hz4 := HB.out.size
          go_region_law (first
            | (go_simp; go_at_call 49; refine (l2_own (l.take k) (some ⟨ba, o, none⟩) k cp _ HTl.out (by omega) (by repeat (first | with_reducible exact HRt.out | with_reducible apply Rd.drewN | with_reducible apply Rd.drew | with_reducible apply Rd.alloc)) (fun h => by cases h)).mono ?_; rintro e w5 ⟨u, rfl, hu, b⟩; (first | (have K2 := Lib.hid (Box.below (Box.newD _ c) b)) | (have K2 := Lib.hid (Box.below (Box.new _ c) b)) | skip); have HU : Hid (OwnN w5 w.heap.size u (l.take k)) := Lib.hid (hu.base (by first | exact hz4 | (simp; omega))); have HB := Lib.hid (chain0 (w := w) (by repeat (first | with_reducible exact Below.refl _ _ | with_reducible exact HB.out | with_reducible apply Below.drew | with_reducible apply bdN | with_reducible refine Below.alloc ?_ (by first | exact Nat.le_refl _ | with_reducible exact HB.out.size | omega | (simp; done) | (simp; omega) | (have := HB.out.size; simp at *; omega)) _ | with_reducible refine Below.setCell ?_ (by first | exact Nat.le_refl _ | with_reducible exact HB.out.size | omega | (simp; done) | (simp; omega) | (have := HB.out.size; simp at *; omega)) _)) b); have HRt := Lib.hid (Rd.below (by repeat (first | with_reducible exact HRt.out | with_reducible apply Rd.drewN | with_reducible apply Rd.drew | with_reducible apply Rd.alloc)) b); have K0 : Hid (Box _ (w.heap.size) (c)) := Lib.hid (Box.below (by repeat (first | with_reducible exact K0.out | with_reducible apply Box.drewN | with_reducible apply Box.drew | (with_reducible refine Box.newAt ?_ ?_ <;> first | (simp; done) | rfl) | with_reducible apply Box.alloc)) b); obtain ⟨k0a, k0b, k0c, k0d⟩ := K0.out.cell; have k0z := K0.out.lt; clear hu)
            | (refine step_append_cards rfl (.tmp 40) (.tmp 43) rfl w.heap.size v1 (l.take k ++ [c]) (l.drop k) _ _ _ rfl rfl ?_ ?_ ?_ ?_ ?_ ?_ ?_
               · first | exact HO1.out | exact HO1.out.drew
               · first | exact HDl.out | (rw [HDl.out]; simp)
               · exact HRd.out
               · intro h; split at h <;> cases h
               · rw [List.length_append]; have := HTl.out; simp; omega
               · exact HB.out.size
               intro v2 w7 hO2 hB2 hG2
               have HO2 := Lib.hid hO2
               have HB := Lib.hid (HB.out.trans hB2)
               clear hO2 hB2 hG2)
            | (refine step_append_cards rfl (.tmp 37) (.tmp 39) rfl w.heap.size u (l.take k) [c] _ 1 1 rfl rfl ?_ rfl ?_ ?_ ?_ ?_ ?_
               · first | exact HU.out | exact HU.out.alloc _ | exact (HU.out.alloc _).drew
               · first | exact Box.rd1 K2.out | exact Box.rd1 (Box.newD _ c) | exact Box.rd1 (Box.new _ c)
               · intro h; cases h
               · have := HTl.out; simp; omega
               · first | exact HB.out.size | (have := HB.out.size; simp; omega)
               intro v1 w6 hO1 hB1 hG1
               have HO1 := Lib.hid hO1
               have hbb : Below w.heap.size w w6 := Below.trans (by first | exact HB.out | exact HB.out.alloc HB.out.size _ | exact (HB.out.alloc HB.out.size _).drew) hB1
               have HB := Lib.hid hbb
               have HRd := Lib.hid ((HR0.out.below hbb).dropIf (cp := cp) k hcpl)
               clear hO1 hB1 hG1 hbb))
          all_goals
            go_wp2_with fail
            go_ret
            exact ⟨_, rfl, by rw [HP.out]; exact HO2.out, HB.out⟩
        · have hsa := HSa.out
          rw [ht] at hsa
          have HP := Lib.hid (show put l c = l by unfold put; rw [if_pos ht])
          rw [hsa] at he
          clear ht hsa
          go_wp2_with fail
          have qk0a := fun d os => cell_regrown k0a d os
          have qk0b := fun d os => cell_regrown k0b d os
          have qk0c := fun d os => cell_regrown k0c d os
          have qk0d := fun d os => cell_regrown k0d d os
          have qc0 := fun d os => cell_regrown c0 d os
          have qc1 := fun d os => cell_regrown c1 d os
          have qc2 := fun d os => cell_regrown c2 d os
          have qc3 := fun d os => cell_regrown c3 d os
          refine wp_region_quiet_below (by kernel_rfl) (by kernel_rfl) ?_
          repeat (first | go_big_quiet_step ((fail)) | quiet_step ((fail)))
          refine wpQuiet_nil ?_
          intro w4 hw2
          have b : Below w3.heap.size w3 w4 := by obtain ⟨r, hr⟩ := hw2; rw [hr]; exact below_regrown _ _ _
          clear hw2 qc0 qc1 qc2 qc3 qk0a qk0b qk0c qk0d
          have Sw4 := Lib.hid b.size
          have HB := Lib.hid (chain0 (w := w) (by repeat (first | with_reducible exact Below.refl _ _ | with_reducible exact HB.out | with_reducible apply Below.drew | with_reducible apply bdN | with_reducible refine Below.alloc ?_ (by first | exact Nat.le_refl _ | with_reducible exact HB.out.size | omega | (simp; done) | (simp; omega) | (have := HB.out.size; simp at *; omega)) _ | with_reducible refine Below.setCell ?_ (by first | exact Nat.le_refl _ | with_reducible exact HB.out.size | omega | (simp; done) | (simp; omega) | (have := HB.out.size; simp at *; omega)) _)) b)
          have HR := Lib.hid (Rd.below (by repeat (first | with_reducible exact HR.out | with_reducible apply Rd.drewN | with_reducible apply Rd.drew | with_reducible apply Rd.alloc)) b)
          have K0 : Hid (Box _ (w.heap.size) (c)) := Lib.hid (Box.below (by repeat (first | with_reducible exact K0.out | with_reducible apply Box.drewN | with_reducible apply Box.drew | (with_reducible refine Box.newAt ?_ ?_ <;> first | (simp; done) | rfl) | with_reducible apply Box.alloc)) b)
          try clear k0a k0b k0c k0d k0z
          have k0z := K0.out.lt
          obtain ⟨k0a, k0b, k0c, k0d⟩ := K0.out.cell
          clear b
          clear c0 c1 c2 c3 he
          go_wp2_with fail
          refine (l2_own l (some ⟨ba, o, none⟩) n cp _ HN.out (by omega) (by repeat (first | with_reducible exact HR.out | with_reducible apply Rd.drewN | with_reducible apply Rd.drew | with_reducible apply Rd.alloc)) (fun h => by cases h)).mono ?_
          rintro e w5 ⟨u, rfl, hu, b⟩
          have HZ := Lib.hid HB.out.size
          have Sw5 := Lib.hid b.size
          have HB := Lib.hid (chain0 (w := w) (by repeat (first | with_reducible exact Below.refl _ _ | with_reducible exact HB.out | with_reducible apply Below.drew | with_reducible apply bdN | with_reducible refine Below.alloc ?_ (by first | exact Nat.le_refl _ | with_reducible exact HB.out.size | omega | (simp; done) | (simp; omega) | (have := HB.out.size; simp at *; omega)) _ | with_reducible refine Below.setCell ?_ (by first | exact Nat.le_refl _ | with_reducible exact HB.out.size | omega | (simp; done) | (simp; omega) | (have := HB.out.size; simp at *; omega)) _)) b)
          have HR := Lib.hid (Rd.below (by repeat (first | with_reducible exact HR.out | with_reducible apply Rd.drewN | with_reducible apply Rd.drew | with_reducible apply Rd.alloc)) b)
          have K0 : Hid (Box _ (w.heap.size) (c)) := Lib.hid (Box.below (by repeat (first | with_reducible exact K0.out | with_reducible apply Box.drewN | with_reducible apply Box.drew | (with_reducible refine Box.newAt ?_ ?_ <;> first | (simp; done) | rfl) | with_reducible apply Box.alloc)) b)
          try clear k0a k0b k0c k0d k0z
          have k0z := K0.out.lt
          obtain ⟨k0a, k0b, k0c, k0d⟩ := K0.out.cell
          clear b
          have HU := Lib.hid (hu.base HZ.out)
          clear hu
          go_wp2_with fail
          go_ret
          exact ⟨_, rfl, by rw [HP.out]; exact HU.out, HB.out⟩
    · obtain rfl : k = n := by omega
      have hk0 : l[k]? = none := List.getElem?_eq_none (by rw [HN.out]; exact Nat.le_refl _)
      have HKe := Lib.hid (show k = less l c from less_is (by rw [HN.out]; exact Nat.le_refl _) HF.out (fun y hy => by rw [hk0] at hy; cases hy))
      have ht : there l c = false := there_end (by rw [HN.out, ← HKe.out]; exact Nat.le_refl _)
      have HP := Lib.hid (show put l c = (l.take k ++ [c]) ++ l.drop k by unfold put; rw [if_neg (by simp [ht]), ← HKe.out]; simp)
      have hcp2 : (k : Int) ≤ (cp : Int) := by omega
      clear hk0 ht
      go_wp2_with fail
      have qk0a := fun d os => cell_regrown k0a d os
      have qk0b := fun d os => cell_regrown k0b d os
      have qk0c := fun d os => cell_regrown k0c d os
      have qk0d := fun d os => cell_regrown k0d d os
      refine wp_region_quiet_below (by kernel_rfl) (by kernel_rfl) ?_
      repeat (first | go_big_quiet_step ((fail)) | quiet_step ((fail)))
      refine wpQuiet_nil ?_
      intro w3 hw2
      have b : Below wr.heap.size wr w3 := by obtain ⟨r, hr⟩ := hw2; rw [hr]; exact below_regrown _ _ _
      clear hw2 qk0a qk0b qk0c qk0d
      have Sw3 := Lib.hid b.size
      have HB := Lib.hid (chain0 (w := w) (by repeat (first | with_reducible exact Below.refl _ _ | with_reducible exact HB.out | with_reducible apply Below.drew | with_reducible apply bdN | with_reducible refine Below.alloc ?_ (by first | exact Nat.le_refl _ | with_reducible exact HB.out.size | omega | (simp; done) | (simp; omega) | (have := HB.out.size; simp at *; omega)) _ | with_reducible refine Below.setCell ?_ (by first | exact Nat.le_refl _ | with_reducible exact HB.out.size | omega | (simp; done) | (simp; omega) | (have := HB.out.size; simp at *; omega)) _)) b)
      have HR := Lib.hid (Rd.below (by repeat (first | with_reducible exact HR.out | with_reducible apply Rd.drewN | with_reducible apply Rd.drew | with_reducible apply Rd.alloc)) b)
      have K0 : Hid (Box _ (w.heap.size) (c)) := Lib.hid (Box.below (by repeat (first | with_reducible exact K0.out | with_reducible apply Box.drewN | with_reducible apply Box.drew | (with_reducible refine Box.newAt ?_ ?_ <;> first | (simp; done) | rfl) | with_reducible apply Box.alloc)) b)
      try clear k0a k0b k0c k0d k0z
      have k0z := K0.out.lt
      obtain ⟨k0a, k0b, k0c, k0d⟩ := K0.out.cell
      clear b
      go_wp2_with fail
      have qk0a := fun d os => cell_regrown k0a d os
      have qk0b := fun d os => cell_regrown k0b d os
      have qk0c := fun d os => cell_regrown k0c d os
      have qk0d := fun d os => cell_regrown k0d d os
      refine wp_region_quiet_below (by kernel_rfl) (by kernel_rfl) ?_
      repeat (first | go_big_quiet_step ((fail)) | quiet_step ((fail)))
      refine wpQuiet_nil ?_
      intro w4 hw2
      have b : Below w3.heap.size w3 w4 := by obtain ⟨r, hr⟩ := hw2; rw [hr]; exact below_regrown _ _ _
      clear hw2 qk0a qk0b qk0c qk0d
      have Sw4 := Lib.hid b.size
      have HB := Lib.hid (chain0 (w := w) (by repeat (first | with_reducible exact Below.refl _ _ | with_reducible exact HB.out | with_reducible apply Below.drew | with_reducible apply bdN | with_reducible refine Below.alloc ?_ (by first | exact Nat.le_refl _ | with_reducible exact HB.out.size | omega | (simp; done) | (simp; omega) | (have := HB.out.size; simp at *; omega)) _ | with_reducible refine Below.setCell ?_ (by first | exact Nat.le_refl _ | with_reducible exact HB.out.size | omega | (simp; done) | (simp; omega) | (have := HB.out.size; simp at *; omega)) _)) b)
      have HR := Lib.hid (Rd.below (by repeat (first | with_reducible exact HR.out | with_reducible apply Rd.drewN | with_reducible apply Rd.drew | with_reducible apply Rd.alloc)) b)
      have K0 : Hid (Box _ (w.heap.size) (c)) := Lib.hid (Box.below (by repeat (first | with_reducible exact K0.out | with_reducible apply Box.drewN | with_reducible apply Box.drew | (with_reducible refine Box.newAt ?_ ?_ <;> first | (simp; done) | rfl) | with_reducible apply Box.alloc)) b)
      try clear k0a k0b k0c k0d k0z
      have k0z := K0.out.lt
      obtain ⟨k0a, k0b, k0c, k0d⟩ := K0.out.cell
      clear b
      obtain ⟨W4, hW4⟩ : ∃ W4 : World, W4 = w4 := ⟨_, rfl⟩
      go_wp2_with fail
      have HRt := Lib.hid (HR.out.take k)
      have hcpl : l.length ≤ cp := by rw [HN.out]; exact hcp
      have hz4 := HB.out.size
      go_region_law (first
        | (go_simp; go_at_call 49; refine (l2_own (l.take k) (some ⟨ba, o, none⟩) k cp _ HTl.out (by omega) (by repeat (first | with_reducible exact HRt.out | with_reducible apply Rd.drewN | with_reducible apply Rd.drew | with_reducible apply Rd.alloc)) (fun h => by cases h)).mono ?_; rintro e w5 ⟨u, rfl, hu, b⟩; (first | (have K2 := Lib.hid (Box.below (Box.newD _ c) b)) | (have K2 := Lib.hid (Box.below (Box.new _ c) b)) | skip); have HU : Hid (OwnN w5 w.heap.size u (l.take k)) := Lib.hid (hu.base (by first | exact hz4 | (simp; omega))); have HB := Lib.hid (chain0 (w := w) (by repeat (first | with_reducible exact Below.refl _ _ | with_reducible exact HB.out | with_reducible apply Below.drew | with_reducible apply bdN | with_reducible refine Below.alloc ?_ (by first | exact Nat.le_refl _ | with_reducible exact HB.out.size | omega | (simp; done) | (simp; omega) | (have := HB.out.size; simp at *; omega)) _ | with_reducible refine Below.setCell ?_ (by first | exact Nat.le_refl _ | with_reducible exact HB.out.size | omega | (simp; done) | (simp; omega) | (have := HB.out.size; simp at *; omega)) _)) b); have HRt := Lib.hid (Rd.below (by repeat (first | with_reducible exact HRt.out | with_reducible apply Rd.drewN | with_reducible apply Rd.drew | with_reducible apply Rd.alloc)) b); have K0 : Hid (Box _ (w.heap.size) (c)) := Lib.hid (Box.below (by repeat (first | with_reducible exact K0.out | with_reducible apply Box.drewN | with_reducible apply Box.drew | (with_reducible refine Box.newAt ?_ ?_ <;> first | (simp; done) | rfl) | with_reducible apply Box.alloc)) b); obtain ⟨k0a, k0b, k0c, k0d⟩ := K0.out.cell; have k0z := K0.out.lt; clear hu)
        | (refine step_append_cards rfl (.tmp 40) (.tmp 43) rfl w.heap.size v1 (l.take k ++ [c]) (l.drop k) _ _ _ rfl rfl ?_ ?_ ?_ ?_ ?_ ?_ ?_
           · first | exact HO1.out | exact HO1.out.drew
           · first | exact HDl.out | (rw [HDl.out]; simp)
           · exact HRd.out
           · intro h; split at h <;> cases h
           · rw [List.length_append]; have := HTl.out; simp; omega
           · exact HB.out.size
           intro v2 w7 hO2 hB2 hG2
           have HO2 := Lib.hid hO2
           have HB := Lib.hid (HB.out.trans hB2)
           clear hO2 hB2 hG2)
        | (refine step_append_cards rfl (.tmp 37) (.tmp 39) rfl w.heap.size u (l.take k) [c] _ 1 1 rfl rfl ?_ rfl ?_ ?_ ?_ ?_ ?_
           · first | exact HU.out | exact HU.out.alloc _ | exact (HU.out.alloc _).drew
           · first | exact Box.rd1 K2.out | exact Box.rd1 (Box.newD _ c) | exact Box.rd1 (Box.new _ c)
           · intro h; cases h
           · have := HTl.out; simp; omega
           · first | exact HB.out.size | (have := HB.out.size; simp; omega)
           intro v1 w6 hO1 hB1 hG1
           have HO1 := Lib.hid hO1
           have hbb : Below w.heap.size w w6 := Below.trans (by first | exact HB.out | exact HB.out.alloc HB.out.size _ | exact (HB.out.alloc HB.out.size _).drew) hB1
           have HB := Lib.hid hbb
           have HRd := Lib.hid ((HR0.out.below hbb).dropIf (cp := cp) k hcpl)
           clear hO1 hB1 hG1 hbb))
      all_goals
        go_wp2_with fail
        all_goals go_ret
        all_goals exact ⟨_, rfl, by rw [HP.out]; exact HO2.out, HB.out⟩
end Go.Proofs.Ytnibkipepmakgaa.cards
