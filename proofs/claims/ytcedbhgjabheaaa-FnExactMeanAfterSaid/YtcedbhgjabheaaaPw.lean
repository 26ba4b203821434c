/- The program's pairs with a card: pairsWith, makesLine. -/
import Derived.Test.YtcedbhgjabheaaaPr
namespace Go.Proofs.Ytcedbhgjabheaaa.cards
open Go.RowKit
set_option linter.unusedVariables false

theorem Box.under {w w1 : World} {g B : Nat} {x : Cd} (h : Box w g x) (hg : g < B) (b : Below B w w1) : Box w1 g x := (b.block g hg).trans h

set_option maxRecDepth 100000 in
set_option maxHeartbeats 4000000 in
theorem pairs_with (l : List Cd) (c : Cd) (p : Option Addr) (n cp : Nat) (w : World) (hn : l.length = n) (hl : n ≤ 1000) (hr : Rd w p (flat l)) (hok : l.all Cd.ok = true) (hc : c.ok = true) (hs : sorted l) :
    Calls Try.prog 72 #[.slice p n cp, c.val] w fun e w' => ∃ u, e = .returned u ∧ OwnA2 w' w.heap.size u (prs l c n) ∧ Below w.heap.size w w' := by
  have HN := Lib.hid hn
  have HR0 := Lib.hid hr
  have HS := Lib.hid hs
  have HK := Lib.hid hok
  have HC := Lib.hid hc
  clear hn hr hs hok hc
  go_enter Try.func72, Try.ntmps72
  have hz1 : (w.alloc c.obj).heap.size = w.heap.size + 1 := by simp
  have hz0 := OwnA2.empty (w.alloc c.obj) (w.heap.size + 1) (Nat.le_of_eq hz1.symm)
  rw [hz1] at hz0
  have hz2 := Lib.hid hz0
  clear hz0 hz1
  go_wp2_with fail
  go_loopw [5, 6, 7, 8, 12] (fun o _ _ _ i wr => ∃ k : Nat, k ≤ n ∧ i = .int .i64 k ∧ Hid (OwnA2 wr (w.heap.size + 1) o (prs l c k)) ∧ Hid (Below w.heap.size w wr) ∧ Hid (Box wr w.heap.size c)) (fun _ _ _ _ i _ => n - (intOf i).toNat)
  case atStart => exact ⟨0, Nat.zero_le _, rfl, hz2, Lib.hid (by repeat (first | with_reducible exact Below.refl _ _ | with_reducible exact HB.out | with_reducible apply Below.drew | with_reducible apply bdN | with_reducible refine Below.alloc ?_ (by first | exact Nat.le_refl _ | with_reducible exact HB.out.size | omega | (simp; done) | (simp; omega) | (have := HB.out.size; simp at *; omega)) _ | with_reducible refine Below.setCell ?_ (by first | exact Nat.le_refl _ | with_reducible exact HB.out.size | omega | (simp; done) | (simp; omega) | (have := HB.out.size; simp at *; omega)) _)), Lib.hid (by repeat (first | with_reducible exact HB.out | with_reducible apply Box.drewN | with_reducible apply Box.drew | (with_reducible refine Box.newAt ?_ ?_ <;> first | (simp; done) | rfl) | with_reducible apply Box.alloc))⟩
  case round =>
    obtain ⟨k, hk, rfl, HO, HB, K0⟩ := hrel
    obtain ⟨k0a, k0b, k0c, k0d⟩ := K0.out.cell
    have k0z := K0.out.lt
    by_cases hlt : k < n
    · have HR := Lib.hid (HR0.out.below HB.out)
      obtain ⟨b, o, x, rfl, hb, hx, c0, c1, c2, c3⟩ := HR.out.card (k := k) (by rw [HN.out]; exact hlt)
      have HX := Lib.hid (ok_at HK.out hx)
      have HA := Lib.hid (lineTo_all (c := c) hx)
      have HSt := Lib.hid (show prs l c (k + 1) = prs l c k ++ pr1 l c k l.length from rfl)
      have HLn := Lib.hid (prs_le l c k)
      have he := eq_run x c HX.out HC.out
      have HXa := Lib.hid hx
      have m0 : (0 : Int) ≤ (k : Int) := by omega
      have m1 : (k : Int) < (n : Int) := by omega
      clear hx
      cases hs : same x c
      · have hle := less_le l (third c x)
        obtain ⟨q, hq⟩ : ∃ q, less l (third c x) = q := ⟨_, rfl⟩
        obtain ⟨t, ht⟩ : ∃ t, there l (third c x) = t := ⟨_, rfl⟩
        have HA2 := HA.out
        rw [hs, hq, ht] at HA2
        have HA3 := Lib.hid HA2
        rw [hq, HN.out] at hle
        have HQ := Lib.hid hq
        have HTt := Lib.hid ht
        clear HA HA2 hq ht
        go_wp2_with fail
        have qk0a := fun d os => cell_regrown k0a d os
        have qk0b := fun d os => cell_regrown k0b d os
        have qk0c := fun d os => cell_regrown k0c d os
        have qk0d := fun d os => cell_regrown k0d d os
        have qc0 := fun d os => cell_regrown c0 d os
        have qc1 := fun d os => cell_regrown c1 d os
        have qc2 := fun d os => cell_regrown c2 d os
        have qc3 := fun d os => cell_regrown c3 d os
        refine wp_region_quiet_below (by kernel_rfl) (by kernel_rfl) ?_
        repeat (first | go_big_quiet_step ((fail)) | quiet_step ((fail)))
        refine wpQuiet_nil ?_
        intro w3 hw2
        have b : Below wr.heap.size wr w3 := by obtain ⟨r, hr⟩ := hw2; rw [hr]; exact below_regrown _ _ _
        clear hw2 qc0 qc1 qc2 qc3 qk0a qk0b qk0c qk0d
        have Sw3 := Lib.hid b.size
        have HB := Lib.hid (chain0 (w := w) (by repeat (first | with_reducible exact Below.refl _ _ | with_reducible exact HB.out | with_reducible apply Below.drew | with_reducible apply bdN | with_reducible refine Below.alloc ?_ (by first | exact Nat.le_refl _ | with_reducible exact HB.out.size | omega | (simp; done) | (simp; omega) | (have := HB.out.size; simp at *; omega)) _ | with_reducible refine Below.setCell ?_ (by first | exact Nat.le_refl _ | with_reducible exact HB.out.size | omega | (simp; done) | (simp; omega) | (have := HB.out.size; simp at *; omega)) _)) b)
        have HR := Lib.hid (Rd.below (by repeat (first | with_reducible exact HR.out | with_reducible apply Rd.drewN | with_reducible apply Rd.drew | with_reducible apply Rd.alloc)) b)
        have HO := Lib.hid (OwnA2.below (by repeat (first | with_reducible exact HO.out | with_reducible apply OwnA2.drewN | with_reducible apply OwnA2.drew | with_reducible apply OwnA2.alloc)) b)
        have K0 : Hid (Box _ (w.heap.size) (c)) := Lib.hid (Box.below (by repeat (first | with_reducible exact K0.out | with_reducible apply Box.drewN | with_reducible apply Box.drew | (with_reducible refine Box.newAt ?_ ?_ <;> first | (simp; done) | rfl) | with_reducible apply Box.alloc)) b)
        try clear k0a k0b k0c k0d k0z
        have k0z := K0.out.lt
        obtain ⟨k0a, k0b, k0c, k0d⟩ := K0.out.cell
        clear b
        clear c0 c1 c2 c3 he
        obtain ⟨c0, c1, c2, c3⟩ := HR.out.at_ HXa.out
        have HP := fun w' (hw : Below w3.heap.size w3 w') => place_in l (third c x) (some ⟨b, o, none⟩) n cp w' HN.out (by omega) (HR.out.below hw) HK.out (third_ok _ _) HS.out
        rw [HQ.out, HTt.out] at HP
        have HP3 := Lib.hid HP
        clear HP
        go_wp2_with fail
        have qk0a := fun d os => cell_regrown k0a d os
        have qk0b := fun d os => cell_regrown k0b d os
        have qk0c := fun d os => cell_regrown k0c d os
        have qk0d := fun d os => cell_regrown k0d d os
        have qc0 := fun d os => cell_regrown c0 d os
        have qc1 := fun d os => cell_regrown c1 d os
        have qc2 := fun d os => cell_regrown c2 d os
        have qc3 := fun d os => cell_regrown c3 d os
        refine wp_region_quiet_below (by kernel_rfl) (by kernel_rfl) ?_
        repeat (first | go_big_quiet_step ((first | (go_at_call 92; with_reducible exact Calls.regrown_of (third_of _ _ _ HC.out HX.out)) | (go_at_call 87; with_reducible exact Calls.regrown_of (HP3.out _ (below_regrown _ _ _))))) | quiet_step ((first | (go_at_call 92; with_reducible exact Calls.regrown_of (third_of _ _ _ HC.out HX.out)) | (go_at_call 87; with_reducible exact Calls.regrown_of (HP3.out _ (below_regrown _ _ _))))))
        refine wpQuiet_nil ?_
        intro w4 hw2
        have b : Below w3.heap.size w3 w4 := by obtain ⟨r, hr⟩ := hw2; rw [hr]; exact below_regrown _ _ _
        clear hw2 qc0 qc1 qc2 qc3 qk0a qk0b qk0c qk0d
        have Sw4 := Lib.hid b.size
        have HB := Lib.hid (chain0 (w := w) (by repeat (first | with_reducible exact Below.refl _ _ | with_reducible exact HB.out | with_reducible apply Below.drew | with_reducible apply bdN | with_reducible refine Below.alloc ?_ (by first | exact Nat.le_refl _ | with_reducible exact HB.out.size | omega | (simp; done) | (simp; omega) | (have := HB.out.size; simp at *; omega)) _ | with_reducible refine Below.setCell ?_ (by first | exact Nat.le_refl _ | with_reducible exact HB.out.size | omega | (simp; done) | (simp; omega) | (have := HB.out.size; simp at *; omega)) _)) b)
        have HR := Lib.hid (Rd.below (by repeat (first | with_reducible exact HR.out | with_reducible apply Rd.drewN | with_reducible apply Rd.drew | with_reducible apply Rd.alloc)) b)
        have HO := Lib.hid (OwnA2.below (by repeat (first | with_reducible exact HO.out | with_reducible apply OwnA2.drewN | with_reducible apply OwnA2.drew | with_reducible apply OwnA2.alloc)) b)
        have K0 : Hid (Box _ (w.heap.size) (c)) := Lib.hid (Box.below (by repeat (first | with_reducible exact K0.out | with_reducible apply Box.drewN | with_reducible apply Box.drew | (with_reducible refine Box.newAt ?_ ?_ <;> first | (simp; done) | rfl) | with_reducible apply Box.alloc)) b)
        try clear k0a k0b k0c k0d k0z
        have k0z := K0.out.lt
        obtain ⟨k0a, k0b, k0c, k0d⟩ := K0.out.cell
        clear b
        clear c0 c1 c2 c3
        cases t
        · have HE := Lib.hid (show prs l c (k + 1) = prs l c k by rw [HSt.out, pr1_no (by rw [HA3.out]; simp), List.append_nil])
          go_wp2_with fail
          go_roundw
          case rel => exact ⟨k + 1, by omega, by go_num, by rw [HE.out]; exact HO, HB, K0⟩
          case measure => simp [intOf]; omega
        · by_cases hkq : k < q
          · have HE := Lib.hid (show prs l c (k + 1) = prs l c k ++ [⟨(k : Int), (q : Int)⟩] by rw [HSt.out, pr1_yes HXa.out (by rw [HA3.out]; simp [hkq]), HQ.out])
            go_wp2_with (at_builtin; refine append_A2 rfl (.tmp 38) (.tmp 42) rfl (w.heap.size + 1) _ (prs l c k) ⟨(k : Int), (q : Int)⟩ _ _ rfl rfl rfl HO.out (by have := HLn.out; omega) k0z ?_; intro v1 w5 hO1 hB1)
            rw [← HE.out] at hO1
            go_roundw
            case rel => exact ⟨k + 1, by omega, by go_num, hO1, HB.out.trans (hB1.mono (Nat.le_succ _)), K0.out.under (Nat.lt_succ_self _) hB1⟩
            case measure => simp [intOf]; omega
          · have HE := Lib.hid (show prs l c (k + 1) = prs l c k by rw [HSt.out, pr1_no (by rw [HA3.out]; simp [hkq]), List.append_nil])
            go_wp2_with fail
            go_roundw
            case rel => exact ⟨k + 1, by omega, by go_num, by rw [HE.out]; exact HO, HB, K0⟩
            case measure => simp [intOf]; omega
      · have HE := Lib.hid (show prs l c (k + 1) = prs l c k by rw [HSt.out, pr1_no (by rw [HA.out, hs]; simp), List.append_nil])
        go_wp2_with fail
        have qk0a := fun d os => cell_regrown k0a d os
        have qk0b := fun d os => cell_regrown k0b d os
        have qk0c := fun d os => cell_regrown k0c d os
        have qk0d := fun d os => cell_regrown k0d d os
        have qc0 := fun d os => cell_regrown c0 d os
        have qc1 := fun d os => cell_regrown c1 d os
        have qc2 := fun d os => cell_regrown c2 d os
        have qc3 := fun d os => cell_regrown c3 d os
        refine wp_region_quiet_below (by kernel_rfl) (by kernel_rfl) ?_
        repeat (first | go_big_quiet_step ((fail)) | quiet_step ((fail)))
        refine wpQuiet_nil ?_
        intro w3 hw2
        have b : Below wr.heap.size wr w3 := by obtain ⟨r, hr⟩ := hw2; rw [hr]; exact below_regrown _ _ _
        clear hw2 qc0 qc1 qc2 qc3 qk0a qk0b qk0c qk0d
        have Sw3 := Lib.hid b.size
        have HB := Lib.hid (chain0 (w := w) (by repeat (first | with_reducible exact Below.refl _ _ | with_reducible exact HB.out | with_reducible apply Below.drew | with_reducible apply bdN | with_reducible refine Below.alloc ?_ (by first | exact Nat.le_refl _ | with_reducible exact HB.out.size | omega | (simp; done) | (simp; omega) | (have := HB.out.size; simp at *; omega)) _ | with_reducible refine Below.setCell ?_ (by first | exact Nat.le_refl _ | with_reducible exact HB.out.size | omega | (simp; done) | (simp; omega) | (have := HB.out.size; simp at *; omega)) _)) b)
        have HO := Lib.hid (OwnA2.below (by repeat (first | with_reducible exact HO.out | with_reducible apply OwnA2.drewN | with_reducible apply OwnA2.drew | with_reducible apply OwnA2.alloc)) b)
        have K0 : Hid (Box _ (w.heap.size) (c)) := Lib.hid (Box.below (by repeat (first | with_reducible exact K0.out | with_reducible apply Box.drewN | with_reducible apply Box.drew | (with_reducible refine Box.newAt ?_ ?_ <;> first | (simp; done) | rfl) | with_reducible apply Box.alloc)) b)
        try clear k0a k0b k0c k0d k0z
        have k0z := K0.out.lt
        obtain ⟨k0a, k0b, k0c, k0d⟩ := K0.out.cell
        clear b
        clear c0 c1 c2 c3 he
        go_wp2_with fail
        go_roundw
        case rel => exact ⟨k + 1, by omega, by go_num, by rw [HE.out]; exact HO, HB, K0⟩
        case measure => simp [intOf]; omega
    · obtain rfl : k = n := by omega
      go_wp2_with fail
      go_ret
      exact ⟨_, rfl, HO.out.base (Nat.le_succ _), HB.out⟩

set_option maxRecDepth 100000 in
set_option maxHeartbeats 2000000 in
theorem makes_line (l : List Cd) (c : Cd) (p : Option Addr) (n cp : Nat) (w : World) (hn : l.length = n) (hl : n ≤ 1000) (hr : Rd w p (flat l)) (hok : l.all Cd.ok = true) (hc : c.ok = true) (hs : sorted l) :
    Calls Try.prog 90 #[.slice p n cp, c.val] w fun e w' => e = .returned (.bool (decide (0 < thr l c n))) ∧ Below w.heap.size w w' := by
  have HN := Lib.hid hn
  have HR := Lib.hid hr
  have HS := Lib.hid hs
  have HK := Lib.hid hok
  have HC := Lib.hid hc
  clear hn hr hs hok hc
  go_enter Try.func90, Try.ntmps90
  go_wp2_with fail
  refine (pairs_with l c p n cp _ HN.out hl (by repeat (first | with_reducible exact HR.out | with_reducible apply Rd.drewN | with_reducible apply Rd.drew | with_reducible apply Rd.alloc)) HK.out HC.out HS.out).mono ?_
  rintro e w1 ⟨u, rfl, hu, b⟩
  obtain ⟨p1, c1, rfl, _⟩ := hu.form
  clear hu
  obtain ⟨m, hm⟩ : ∃ m, (prs l c n).length = m := ⟨_, rfl⟩
  have HM := Lib.hid hm
  rw [hm]
  clear hm
  have Sw1 := Lib.hid b.size
  have HB := Lib.hid (chain0 (w := w) (by repeat (first | with_reducible exact Below.refl _ _ | with_reducible exact HB.out | with_reducible apply Below.drew | with_reducible apply bdN | with_reducible refine Below.alloc ?_ (by first | exact Nat.le_refl _ | with_reducible exact HB.out.size | omega | (simp; done) | (simp; omega) | (have := HB.out.size; simp at *; omega)) _ | with_reducible refine Below.setCell ?_ (by first | exact Nat.le_refl _ | with_reducible exact HB.out.size | omega | (simp; done) | (simp; omega) | (have := HB.out.size; simp at *; omega)) _)) b)
  have HR := Lib.hid (Rd.below (by repeat (first | with_reducible exact HR.out | with_reducible apply Rd.drewN | with_reducible apply Rd.drew | with_reducible apply Rd.alloc)) b)
  have K0 : Hid (Box _ (w.heap.size) (c)) := Lib.hid (Box.below (by repeat (first | with_reducible exact K0.out | with_reducible apply Box.drewN | with_reducible apply Box.drew | (with_reducible refine Box.newAt ?_ ?_ <;> first | (simp; done) | rfl) | with_reducible apply Box.alloc)) b)
  try clear k0a k0b k0c k0d k0z
  have k0z := K0.out.lt
  obtain ⟨k0a, k0b, k0c, k0d⟩ := K0.out.cell
  clear b
  go_wp2_with fail
  go_ret
  exact ⟨ret_bool (by rw [← prs_len, HM.out]; simp), HB.out⟩
end Go.Proofs.Ytcedbhgjabheaaa.cards
