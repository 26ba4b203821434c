/- SortCards: the model. -/
import Derived.Test.YtghjopgbhodccaaSo
import Derived.Test.YtghjopgbhodccaaPu
namespace Go.Proofs.Ytghjopgbhodccaa.cards
open Go.RowKit
set_option linter.unusedVariables false

theorem allPut_le {l : List Cd} (hok : l.all Cd.ok = true) : (allPut l).length ≤ 81 := sorted_81 (allPut_is hok).1 (allPut_is hok).2.1
theorem take_all {l : List Cd} (hok : l.all Cd.ok = true) (k : Nat) : (l.take k).all Cd.ok = true := take_ok hok k
theorem sortR_len (l : List Cd) : (sortR l).1.length ≤ 1000 := by
  unfold sortR
  split
  · rename_i h; exact Nat.le_trans h.2 (by omega)
  · simp

set_option maxRecDepth 100000 in
set_option maxHeartbeats 4000000 in
theorem l2_sorted (l : List Cd) (p : Option Addr) (n cp : Nat) (w : World) (hn : l.length = n) (hl : n ≤ 1000000000) (hr : Rd w p (flat l)) (hok : l.all Cd.ok = true) :
    Calls Try.prog 85 #[.slice p n cp] w fun e w' => ∃ u, e = .returned u ∧ OwnN w' w.heap.size u (allPut l) ∧ Below w.heap.size w w' := by
  have HN := Lib.hid hn
  have HR0 := Lib.hid hr
  have HK := Lib.hid hok
  clear hn hr hok
  go_enter Try.func85, Try.ntmps85
  go_wp2_with fail
  go_loopw [3, 4] (fun o i wr => ∃ k : Nat, k ≤ n ∧ i = .int .i64 k ∧ Hid (OwnN wr w.heap.size o (allPut (l.take k))) ∧ Hid (Below w.heap.size w wr)) (fun _ i _ => n - (intOf i).toNat)
  case atStart => exact ⟨0, Nat.zero_le _, rfl, Lib.hid (OwnN.empty w w.heap.size (Nat.le_refl _)), Lib.hid (by repeat (first | with_reducible exact Below.refl _ _ | with_reducible exact HB.out | with_reducible apply Below.drew | with_reducible apply bdN | with_reducible refine Below.alloc ?_ (by first | exact Nat.le_refl _ | (simp; done) | (simp; omega) | (have := HB.out.size; simp at *; omega)) _ | with_reducible refine Below.setCell ?_ (by first | exact Nat.le_refl _ | (simp; done) | (simp; omega) | (have := HB.out.size; simp at *; omega)) _))⟩
  case round =>
    obtain ⟨k, hk, rfl, HO, HB⟩ := hrel
    by_cases hlt : k < n
    · have HR := Lib.hid (HR0.out.below HB.out)
      obtain ⟨b, o, x, rfl, hb, hx, c0, c1, c2, c3⟩ := HR.out.card (k := k) (by rw [HN.out]; exact hlt)
      have HX := Lib.hid (ok_at HK.out hx)
      have HE := Lib.hid (allPut_snoc hx)
      have m0 : (0 : Int) ≤ (k : Int) := by omega
      have m1 : (k : Int) < (n : Int) := by omega
      have HTk := Lib.hid (take_all HK.out k)
      have HI := Lib.hid (allPut_is HTk.out)
      have HL := Lib.hid (allPut_le HTk.out)
      obtain ⟨g, c, rfl, hc, hr⟩ := HO.out.form
      have HRo := Lib.hid hr
      clear hx hr
      go_wp2_with fail
      refine (l2_put (allPut (l.take k)) x g 0 _ c _ rfl (by have := HL.out; omega) hc HRo.out HI.out.2.1 HX.out HI.out.1).mono ?_
      rintro e w2 ⟨u, rfl, hu, b⟩
      have HZ := Lib.hid HB.out.size
      have Sw2 := Lib.hid b.size
      have HB := Lib.hid (chain0 (w := w) (by repeat (first | with_reducible exact Below.refl _ _ | with_reducible exact HB.out | with_reducible apply Below.drew | with_reducible apply bdN | with_reducible refine Below.alloc ?_ (by first | exact Nat.le_refl _ | (simp; done) | (simp; omega) | (have := HB.out.size; simp at *; omega)) _ | with_reducible refine Below.setCell ?_ (by first | exact Nat.le_refl _ | (simp; done) | (simp; omega) | (have := HB.out.size; simp at *; omega)) _)) b)
      clear b
      have HU := Lib.hid (hu.base HZ.out)
      clear hu
      rw [← HE.out] at HU
      go_wp2_with fail
      go_roundw
      case rel => exact ⟨k + 1, by omega, by go_num, HU, HB⟩
      case measure => simp [intOf]; omega
    · obtain rfl : k = n := by omega
      have HE := Lib.hid (show l.take k = l by rw [← HN.out, List.take_length])
      go_wp2_with fail
      go_ret
      exact ⟨_, rfl, by rw [HE.out] at HO; exact HO.out, HB.out⟩

end Go.Proofs.Ytghjopgbhodccaa.cards
