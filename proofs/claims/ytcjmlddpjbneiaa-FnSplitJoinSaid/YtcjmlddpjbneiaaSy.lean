/- JoinStrings: a byte in one of the texts, and the program. -/
import Derived.Test.YtcjmlddpjbneiaaSw
namespace Go.Proofs.Ytcjmlddpjbneiaa.cards
open Go.RowKit
set_option linter.unusedVariables false

set_option maxRecDepth 100000 in
set_option maxHeartbeats 4000000 in
theorem any_byte (l : List ByteArray) (y : UInt8) (p : Option Addr) (n c : Nat) (w : World) (hn : l.length = n) (hl : n ≤ 1048576) (hs : ∀ x ∈ l, x.size ≤ 1048576) (hr : Rd w p (tx l)) :
    Calls Try.prog 34 #[.slice p n c, .int .u8 y.toNat] w fun e w' => e = .returned (.bool (anyB l y)) ∧ Below w.heap.size w w' := by
  have HN := Lib.hid hn
  have HR0 := Lib.hid hr
  have HS := Lib.hid hs
  have hb : y.toNat < 256 := y.toNat_lt
  clear hn hr hs
  go_enter Try.func34, Try.ntmps34
  go_wp2_with fail
  go_step3
  go_wp2_with fail
  go_step3
  go_wp2_with fail
  go_loopw [5, 11] (fun f i wr => ∃ (k : Nat), k ≤ n ∧ i = .int .i64 k ∧ f = .bool false ∧ Hid (anyB (l.take k) y = false) ∧ Hid (Below w.heap.size w wr)) (fun _ i _ => n - (intOf i).toNat)
  case atStart => exact ⟨0, Nat.zero_le _, rfl, rfl, Lib.hid rfl, Lib.hid (Below.refl _ _)⟩
  case round =>
    obtain ⟨k, hk, rfl, rfl, HA, HB⟩ := hrel
    by_cases hlt : k < n
    · obtain ⟨b1, o1, x, rfl, hb1, hx, c0⟩ := (HR0.out.below HB.out).str (k := k) (by rw [HN.out]; exact hlt)
      have hxs := HS.out x (List.mem_of_getElem? hx)
      have HXm := Lib.hid (List.mem_of_getElem? hx)
      have HA2 := Lib.hid (show anyB (l.take (k + 1)) y = hasB x y by rw [tk_snocB hx, anyB_snoc, HA.out, Bool.false_or])
      have m0 : (0 : Int) ≤ (k : Int) := by omega
      have m1 : (k : Int) < (n : Int) := by omega
      clear hx
      obtain ⟨W0, hW0⟩ : ∃ W0 : World, W0 = wr := ⟨_, rfl⟩
      subst hW0
      go_wp2_with fail
      go_loopw [5, 17] (fun f i w2 => ∃ (j : Nat), j ≤ x.size ∧ i = .int .i64 j ∧ f = .bool false ∧ Hid ((x.data.toList.take j).contains y = false) ∧ Hid (Below w.heap.size w w2)) (fun _ i _ => x.size - (intOf i).toNat)
      case atStart => exact ⟨0, Nat.zero_le _, rfl, rfl, Lib.hid rfl, HB⟩
      case round =>
        obtain ⟨j, hj, rfl, rfl, HF, HB2⟩ := hrel
        by_cases hjl : j < x.size
        · have HT := Lib.hid (bytes_snoc x j hjl)
          have hc' : x[j].toNat < 256 := x[j].toNat_lt
          by_cases hc : x[j].toNat = y.toNat
          · have hbb : ((x[j].toNat : Int) == (y.toNat : Int)) = true := by simp [hc]
            have HM : Hid (anyB l y = true) := Lib.hid (anyB_has HXm.out (by
              unfold hasB
              rw [List.contains_iff_mem]
              have : x[j] = y := UInt8.toNat.inj hc
              rw [← this]
              exact List.getElem_mem (l := x.data.toList) (by simpa using hjl)))
            clear hc
            go_wp2_with fail
            (try rw [Exit.noGoto_ret])
            show bodyPost _ _ _ _ _ _
            go_ret
            exact ⟨ret_bool HM.out.symm, HB2.out⟩
          · have hbb : ((x[j].toNat : Int) == (y.toNat : Int)) = false := by simp; omega
            have HC : Hid (y ≠ x[j]) := Lib.hid (fun e => hc (by rw [← e]))
            clear hc
            go_wp2_with fail
            go_roundw
            case rel => exact ⟨j + 1, by omega, by go_num, rfl, Lib.hid (by rw [HT.out]; have := HF.out; have h2 := HC.out; simp_all), HB2⟩
            case measure => simp [intOf]; omega
        · have HM : Hid (hasB x y = false) := Lib.hid (by
            have h := HF.out
            rw [List.take_of_length_le (by simp; omega)] at h
            exact h)
          go_wp2_with fail
          go_roundw
          case rel => exact ⟨k + 1, by omega, by go_num, rfl, Lib.hid (by rw [HA2.out]; exact HM.out), HB2⟩
          case measure => simp [intOf]; omega
    · obtain rfl : k = n := by omega
      have HM := Lib.hid (show anyB l y = false by have h := HA.out; rw [List.take_of_length_le (by rw [HN.out]; exact Nat.le_refl _)] at h; exact h)
      go_wp2_with fail
      (try rw [Exit.noGoto_ret])
      show bodyPost _ _ _ _ _ _
      go_ret
      exact ⟨ret_bool HM.out.symm, HB.out⟩
end Go.Proofs.Ytcjmlddpjbneiaa.cards
