/- All weights in order, as the program has them. -/
import Derived.Test.YtdhcdogmbclhaaaOb
import Derived.Test.YtdhcdogmbclhaaaNo
import Derived.Test.YtdhcdogmbclhaaaPm
import Derived.Test.YtdhcdogmbclhaaaAt
namespace Go.Proofs.Ytdhcdogmbclhaaa.planes
open Go.RowKit
open cards
set_option linter.unusedVariables false

set_option maxRecDepth 100000 in
set_option maxHeartbeats 4000000 in
theorem numbers_of_weight (w : World) :
    Calls Try.prog 84 #[.func (.func 37) #[] #[]] w fun e w' => ∃ u, e = .returned u ∧ OwnI w' w.heap.size u (nums wtB 81) ∧ Below w.heap.size w w' := by
  go_enter Try.func84, Try.ntmps84
  go_wp2_with fail
  go_loopw [3, 4, 6] (fun o _ i wr => ∃ k : Nat, k ≤ 81 ∧ i = .int .i64 k ∧ Hid (OwnI wr w.heap.size o (nums wtB k)) ∧ Hid (Below w.heap.size w wr)) (fun _ _ i _ => 81 - (intOf i).toNat)
  case atStart => exact ⟨0, Nat.zero_le _, rfl, Lib.hid (OwnI.empty _ _ (Nat.le_refl _)), Lib.hid (by repeat (first | with_reducible exact Below.refl _ _ | with_reducible exact HB.out | with_reducible apply Below.drew | with_reducible apply bdN | with_reducible refine Below.alloc ?_ (by first | exact Nat.le_refl _ | with_reducible exact HB.out.size | omega | (simp; done) | (simp; omega) | (have := HB.out.size; simp at *; omega)) _ | with_reducible refine Below.setCell ?_ (by first | exact Nat.le_refl _ | with_reducible exact HB.out.size | omega | (simp; done) | (simp; omega) | (have := HB.out.size; simp at *; omega)) _))⟩
  case round =>
    obtain ⟨k, hk, rfl, HO, HB⟩ := hrel
    by_cases hlt : k < 81
    · have m0 : (0 : Int) ≤ (k : Int) := by omega
      have m1 : (k : Int) < 81 := by omega
      have HC := Lib.hid (cdAt_ok (n := (k : Int)) m0 (by omega))
      have HLn := Lib.hid (nums_len wtB k)
      go_wp2_with fail
      refine ((card_of (k : Int) _ m0 (by omega))).mono ?_
      rintro e w1 ⟨rfl, b⟩
      have Sw1 := Lib.hid b.size
      have HB := Lib.hid (chain0 (w := w) (by repeat (first | with_reducible exact Below.refl _ _ | with_reducible exact HB.out | with_reducible apply Below.drew | with_reducible apply bdN | with_reducible refine Below.alloc ?_ (by first | exact Nat.le_refl _ | with_reducible exact HB.out.size | omega | (simp; done) | (simp; omega) | (have := HB.out.size; simp at *; omega)) _ | with_reducible refine Below.setCell ?_ (by first | exact Nat.le_refl _ | with_reducible exact HB.out.size | omega | (simp; done) | (simp; omega) | (have := HB.out.size; simp at *; omega)) _)) b)
      have HO := Lib.hid (OwnI.below (by repeat (first | with_reducible exact HO.out | with_reducible apply OwnI.drewN | with_reducible apply OwnI.drew | with_reducible apply OwnI.alloc)) b)
      clear b
      have HPx := Lib.hid (is_weight (cdAt (k : Int)) w1)
      cases ht : wtB (cdAt (k : Int))
      · have HE := Lib.hid (nums_no ht)
        rw [ht] at HPx
        clear ht
        go_wp2_with fail
        refine (HPx.out).mono ?_
        rintro e w2 ⟨rfl, b⟩
        have Sw2 := Lib.hid b.size
        have HB := Lib.hid (chain0 (w := w) (by repeat (first | with_reducible exact Below.refl _ _ | with_reducible exact HB.out | with_reducible apply Below.drew | with_reducible apply bdN | with_reducible refine Below.alloc ?_ (by first | exact Nat.le_refl _ | with_reducible exact HB.out.size | omega | (simp; done) | (simp; omega) | (have := HB.out.size; simp at *; omega)) _ | with_reducible refine Below.setCell ?_ (by first | exact Nat.le_refl _ | with_reducible exact HB.out.size | omega | (simp; done) | (simp; omega) | (have := HB.out.size; simp at *; omega)) _)) b)
        have HO := Lib.hid (OwnI.below (by repeat (first | with_reducible exact HO.out | with_reducible apply OwnI.drewN | with_reducible apply OwnI.drew | with_reducible apply OwnI.alloc)) b)
        clear b
        go_wp2_with fail
        go_roundw
        case rel => exact ⟨k + 1, by omega, by go_num, by rw [HE.out]; exact HO, HB⟩
        case measure => simp [intOf]; omega
      · have HE := Lib.hid (nums_yes ht)
        rw [ht] at HPx
        clear ht
        go_wp2_with fail
        refine (HPx.out).mono ?_
        rintro e w2 ⟨rfl, b⟩
        have Sw2 := Lib.hid b.size
        have HB := Lib.hid (chain0 (w := w) (by repeat (first | with_reducible exact Below.refl _ _ | with_reducible exact HB.out | with_reducible apply Below.drew | with_reducible apply bdN | with_reducible refine Below.alloc ?_ (by first | exact Nat.le_refl _ | with_reducible exact HB.out.size | omega | (simp; done) | (simp; omega) | (have := HB.out.size; simp at *; omega)) _ | with_reducible refine Below.setCell ?_ (by first | exact Nat.le_refl _ | with_reducible exact HB.out.size | omega | (simp; done) | (simp; omega) | (have := HB.out.size; simp at *; omega)) _)) b)
        have HO := Lib.hid (OwnI.below (by repeat (first | with_reducible exact HO.out | with_reducible apply OwnI.drewN | with_reducible apply OwnI.drew | with_reducible apply OwnI.alloc)) b)
        clear b
        go_wp2_with (at_builtin; refine append_int rfl (.tmp 13) (.tmp 15) rfl w.heap.size _ (nums wtB k) (k : Int) _ _ rfl rfl rfl HO.out (by have := HLn.out; omega) HB.out.size ?_; intro v1 w5 hO1 hB1)
        rw [← HE.out] at hO1
        go_roundw
        case rel => exact ⟨k + 1, by omega, by go_num, hO1, HB.out.trans hB1⟩
        case measure => simp [intOf]; omega
    · obtain rfl : k = 81 := by omega
      go_wp2_with fail
      go_ret
      exact ⟨_, rfl, HO.out, HB.out⟩

/-- All weights, in order. -/
def wts : List Cd := cdsOf wtB 81
theorem nums_at {P : Cd → Bool} {k : Nat} {n : Int} (h : (nums P 81)[k]? = some n) : 0 ≤ n ∧ n ≤ 80 := by
  have := (nums_mem (P := P) (k := 81)).1 (List.mem_of_getElem? h)
  omega
theorem wts_snoc {k : Nat} {n : Int} (h : (nums wtB 81)[k]? = some n) : wts.take (k + 1) = wts.take k ++ [cdAt n] := by
  unfold wts cdsOf
  rw [← List.map_take, ← List.map_take, take_snoc h, List.map_append]
  rfl
theorem wts_len : wts.length = (nums wtB 81).length := by unfold wts cdsOf; rw [List.length_map]
theorem wts_le : wts.length ≤ 81 := by rw [wts_len]; exact nums_len _ _

set_option maxRecDepth 100000 in
set_option maxHeartbeats 4000000 in
theorem all_weights (w : World) :
    Calls Try.prog 71 #[] w fun e w' => ∃ u, e = .returned u ∧ Own w' w.heap.size u wts ∧ Below w.heap.size w w' := by
  have HO := Lib.hid (Own.empty w w.heap.size (Nat.le_refl _))
  have HB : Hid (Below w.heap.size w (w.alloc (.cells #[] 33))) := Lib.hid ((Below.refl _ _).alloc (Nat.le_refl _) _)
  go_enter Try.func71, Try.ntmps71
  go_wp2_with fail
  refine (numbers_of_weight _).mono ?_
  rintro e w1 ⟨u, rfl, hu, b⟩
  have HO := Lib.hid (HO.out.below b)
  have HB := Lib.hid (chain0 HB.out b)
  obtain ⟨p, c, rfl, hc, hr, _⟩ := hu.form
  have hle := nums_len wtB 81
  have HAp : Hid (Ap (.slice (some ⟨w.heap.size, 0, none⟩) 0 0) (.slice p (nums wtB 81).length c)) := Lib.hid (fun g h1 h2 => by
    have h1 : some w.heap.size = some g := h1
    injection h1 with h1
    have h3 := (hu.span g h2).1
    simp at h3; omega)
  have HU := Lib.hid (hu.base (B' := w.heap.size) (by simp))
  obtain ⟨n, hn⟩ : ∃ n, (nums wtB 81).length = n := ⟨_, rfl⟩
  have HN := Lib.hid hn
  rw [hn] at hle HU HAp ⊢
  clear hu b hc hr hn
  go_wp2_with fail
  go_loopw [1, 3, 7] (fun o _ iv wr => ∃ k : Nat, k ≤ n ∧ iv = .int .i64 k ∧ Hid (Own wr w.heap.size o (wts.take k)) ∧ Hid (Below w.heap.size w wr) ∧ Hid (OwnI wr w.heap.size (.slice p n c) (nums wtB 81)) ∧ Hid (Ap o (.slice p n c))) (fun _ _ iv _ => n - (intOf iv).toNat)
  case atStart => exact ⟨0, Nat.zero_le _, rfl, HO, HB, HU, HAp⟩
  case round =>
    clear HO HB HU HAp
    obtain ⟨k, hk, rfl, HO, HB, HU, HAp⟩ := hrel
    by_cases hlt : k < n
    · obtain ⟨b, o, x, rfl, hb, hx, c0⟩ := (OwnI.rd HU.out).int (k := k) (by rw [HN.out]; exact hlt)
      have hbd := nums_at hx
      have HE := Lib.hid (wts_snoc hx)
      have HL : Hid ((wts.take k).length ≤ 81) := Lib.hid (by rw [List.length_take]; omega)
      have m0 : (0 : Int) ≤ (k : Int) := by omega
      have m1 : (k : Int) < (n : Int) := by omega
      clear hx
      go_wp2_with fail
      refine ((card_of x _ hbd.1 hbd.2)).mono ?_
      rintro e w2 ⟨rfl, b⟩
      have Sw2 := Lib.hid b.size
      have HB := Lib.hid (chain0 (w := w) (by repeat (first | with_reducible exact Below.refl _ _ | with_reducible exact HB.out | with_reducible apply Below.drew | with_reducible apply bdN | with_reducible refine Below.alloc ?_ (by first | exact Nat.le_refl _ | with_reducible exact HB.out.size | omega | (simp; done) | (simp; omega) | (have := HB.out.size; simp at *; omega)) _ | with_reducible refine Below.setCell ?_ (by first | exact Nat.le_refl _ | with_reducible exact HB.out.size | omega | (simp; done) | (simp; omega) | (have := HB.out.size; simp at *; omega)) _)) b)
      have HO := Lib.hid (Own.below (by repeat (first | with_reducible exact HO.out | with_reducible apply Own.drewN | with_reducible apply Own.drew | with_reducible apply Own.alloc)) b)
      have HU := Lib.hid (OwnI.below (by repeat (first | with_reducible exact HU.out | with_reducible apply OwnI.drewN | with_reducible apply OwnI.drew | with_reducible apply OwnI.alloc)) b)
      clear b
      go_wp2_with (at_builtin; refine append_cd_at rfl (.tmp 11) (.tmp 14) rfl w.heap.size _ (wts.take k) (cdAt x) _ _ rfl rfl rfl HO.out (by have := HL.out; omega) HB.out.size ?_; intro v1 w5 hO1 hB1 hG1 hA1)
      rw [← HE.out] at hO1
      have HU5 := Lib.hid (OwnI.past HU.out hG1 HAp.out)
      have HA5 := Lib.hid (Ap.next HAp.out (N := w2.heap.size + 1) (fun g h => by have := (HU.out.span g h).2; omega) hA1)
      go_roundw
      case rel => exact ⟨k + 1, by omega, by go_num, hO1, HB.out.trans hB1, HU5, HA5⟩
      case measure => simp [intOf]; omega
    · obtain rfl : k = n := by omega
      have HT := Lib.hid (show wts.take k = wts by rw [← HN.out, ← wts_len, List.take_length])
      rw [HT.out] at HO
      go_wp2_with fail
      go_ret
      exact ⟨_, rfl, HO.out, HB.out⟩
end Go.Proofs.Ytdhcdogmbclhaaa.planes
