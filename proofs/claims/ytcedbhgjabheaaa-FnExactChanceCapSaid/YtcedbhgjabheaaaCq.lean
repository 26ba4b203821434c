/- IsCap: the program and the model alike. -/
import Derived.Test.YtcedbhgjabheaaaPw
import Derived.Test.YtcedbhgjabheaaaCa
import Derived.Test.YtcedbhgjabheaaaAp
namespace Go.Proofs.Ytcedbhgjabheaaa.cards
open Go.RowKit
set_option linter.unusedVariables false

set_option maxRecDepth 100000 in
set_option maxHeartbeats 4000000 in
theorem are_cap (l : List Cd) (p : Option Addr) (n cp : Nat) (w : World) (hn : l.length = n) (hl : n ≤ 1000) (hcp : n ≤ cp) (hr : Rd w p (flat l)) (hok : l.all Cd.ok = true) (hs : sorted l) :
    Calls Try.prog 66 #[.slice p n cp] w fun e w' => e = .returned (.bool (capB l)) ∧ Below w.heap.size w w' := by
  have HN := Lib.hid hn
  have HR0 := Lib.hid hr
  have HS := Lib.hid hs
  have HK := Lib.hid hok
  clear hn hr hs hok
  go_enter Try.func66, Try.ntmps66
  go_wp2_with fail
  go_loopw [3, 4, 7] (fun _ _ i wr => ∃ k : Nat, k ≤ n ∧ i = .int .i64 k ∧ Hid (∀ j z, j < k → l[j]? = some z → (0 < thr (l.take j) z j → False)) ∧ Hid (Below w.heap.size w wr)) (fun _ _ i _ => n - (intOf i).toNat)
  case atStart => exact ⟨0, Nat.zero_le _, rfl, Lib.hid (fun j z hj => absurd hj (Nat.not_lt_zero j)), Lib.hid (by repeat (first | with_reducible exact Below.refl _ _ | with_reducible exact HB.out | with_reducible apply Below.drew | with_reducible apply bdN | with_reducible refine Below.alloc ?_ (by first | exact Nat.le_refl _ | with_reducible exact HB.out.size | omega | (simp; done) | (simp; omega) | (have := HB.out.size; simp at *; omega)) _ | with_reducible refine Below.setCell ?_ (by first | exact Nat.le_refl _ | with_reducible exact HB.out.size | omega | (simp; done) | (simp; omega) | (have := HB.out.size; simp at *; omega)) _))⟩
  case round =>
    obtain ⟨k, hk, rfl, HF, HB⟩ := hrel
    by_cases hlt : k < n
    · have HR := Lib.hid (HR0.out.below HB.out)
      obtain ⟨b, o, x, rfl, hb, hx, c0, c1, c2, c3⟩ := HR.out.card (k := k) (by rw [HN.out]; exact hlt)
      have HXa := Lib.hid hx
      have HX := Lib.hid (ok_at HK.out hx)
      have m0 : (0 : Int) ≤ (k : Int) := by omega
      have m1 : (k : Int) < (n : Int) := by omega
      have m2 : k ≤ cp := by omega
      have m3 : (k : Int) ≤ (cp : Int) := by omega
      have hkn : (l.take k).length = k := by rw [List.length_take, HN.out]; omega
      have HKN := Lib.hid hkn
      clear hx hkn
      go_wp2_with fail
      obtain ⟨w2, ew, b⟩ : ∃ wOPN : World, wOPN = (wr.alloc x.obj) ∧ Below ((wr.alloc x.obj)).heap.size ((wr.alloc x.obj)) wOPN := ⟨_, rfl, Below.refl _ _⟩
      rw [← ew]
      clear ew
      have Sw2 := Lib.hid b.size
      have HB := Lib.hid (chain0 (w := w) (by repeat (first | with_reducible exact Below.refl _ _ | with_reducible exact HB.out | with_reducible apply Below.drew | with_reducible apply bdN | with_reducible refine Below.alloc ?_ (by first | exact Nat.le_refl _ | with_reducible exact HB.out.size | omega | (simp; done) | (simp; omega) | (have := HB.out.size; simp at *; omega)) _ | with_reducible refine Below.setCell ?_ (by first | exact Nat.le_refl _ | with_reducible exact HB.out.size | omega | (simp; done) | (simp; omega) | (have := HB.out.size; simp at *; omega)) _)) b)
      have HR := Lib.hid (Rd.below (by repeat (first | with_reducible exact HR.out | with_reducible apply Rd.drewN | with_reducible apply Rd.drew | with_reducible apply Rd.alloc)) b)
      have K1 : Hid (Box _ (wr.heap.size) (x)) := Lib.hid (Box.below (by repeat (first | with_reducible exact K1.out | with_reducible apply Box.drewN | with_reducible apply Box.drew | (with_reducible refine Box.newAt ?_ ?_ <;> first | (simp; done) | rfl) | with_reducible apply Box.alloc)) b)
      try clear k1a k1b k1c k1d k1z
      have k1z := K1.out.lt
      obtain ⟨k1a, k1b, k1c, k1d⟩ := K1.out.cell
      clear b
      clear c0 c1 c2 c3
      have HP := fun w' (hw : Below w2.heap.size w2 w') => makes_line (l.take k) x (some ⟨b, o, none⟩) k cp w' HKN.out (by omega) ((HR.out.below hw).take k) (take_ok HK.out k) HX.out (take_sorted HS.out k)
      obtain ⟨t, ht⟩ : ∃ t, decide (0 < thr (l.take k) x k) = t := ⟨_, rfl⟩
      rw [ht] at HP
      have HP3 := Lib.hid HP
      have HT := Lib.hid ht
      clear HP ht
      have qk1a := fun d os => cell_regrown k1a d os
      have qk1b := fun d os => cell_regrown k1b d os
      have qk1c := fun d os => cell_regrown k1c d os
      have qk1d := fun d os => cell_regrown k1d d os
      refine wp_region_quiet_below (by kernel_rfl) (by kernel_rfl) ?_
      repeat (first | go_big_quiet_step ((go_at_call 90; with_reducible exact Calls.regrown_of (HP3.out _ (below_regrown _ _ _)))) | quiet_step ((go_at_call 90; with_reducible exact Calls.regrown_of (HP3.out _ (below_regrown _ _ _)))))
      refine wpQuiet_nil ?_
      intro w3 hw2
      have b : Below w2.heap.size w2 w3 := by obtain ⟨r, hr⟩ := hw2; rw [hr]; exact below_regrown _ _ _
      clear hw2 qk1a qk1b qk1c qk1d
      have Sw3 := Lib.hid b.size
      have HB := Lib.hid (chain0 (w := w) (by repeat (first | with_reducible exact Below.refl _ _ | with_reducible exact HB.out | with_reducible apply Below.drew | with_reducible apply bdN | with_reducible refine Below.alloc ?_ (by first | exact Nat.le_refl _ | with_reducible exact HB.out.size | omega | (simp; done) | (simp; omega) | (have := HB.out.size; simp at *; omega)) _ | with_reducible refine Below.setCell ?_ (by first | exact Nat.le_refl _ | with_reducible exact HB.out.size | omega | (simp; done) | (simp; omega) | (have := HB.out.size; simp at *; omega)) _)) b)
      have HR := Lib.hid (Rd.below (by repeat (first | with_reducible exact HR.out | with_reducible apply Rd.drewN | with_reducible apply Rd.drew | with_reducible apply Rd.alloc)) b)
      have K1 : Hid (Box _ (wr.heap.size) (x)) := Lib.hid (Box.below (by repeat (first | with_reducible exact K1.out | with_reducible apply Box.drewN | with_reducible apply Box.drew | (with_reducible refine Box.newAt ?_ ?_ <;> first | (simp; done) | rfl) | with_reducible apply Box.alloc)) b)
      try clear k1a k1b k1c k1d k1z
      have k1z := K1.out.lt
      obtain ⟨k1a, k1b, k1c, k1d⟩ := K1.out.cell
      clear b
      cases t
      · go_wp2_with fail
        go_roundw
        case rel => exact ⟨k + 1, by omega, by go_num, Lib.hid (fun j z hj hz => by
            by_cases hjk : j < k
            · exact HF.out j z hjk hz
            · obtain rfl : j = k := by omega
              have hxx := HXa.out
              rw [hz] at hxx; injection hxx with hxx; subst hxx
              exact of_decide_eq_false HT.out), HB⟩
        case measure => simp [intOf]; omega
      · go_wp2_with fail
        go_ret
        exact ⟨ret_bool (cap_stop HS.out HK.out HXa.out (of_decide_eq_true HT.out)).symm, HB.out⟩
    · obtain rfl : k = n := by omega
      go_wp2_with fail
      go_ret
      exact ⟨ret_bool (cap_all HN.out HS.out HK.out (fun j z hj hz => HF.out j z hj hz)).symm, HB.out⟩

noncomputable def capR (l : List Cd) : Bool × Bool := if handB l = true then (capB l, true) else (false, false)

end Go.Proofs.Ytcedbhgjabheaaa.cards
