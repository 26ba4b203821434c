/- JoinStrings: the program. -/
import Derived.Test.YtcjmlddpjbneiaaSv
import Derived.Test.YtcjmlddpjbneiaaShelf
namespace Go.Proofs.Ytcjmlddpjbneiaa.cards
open Go.RowKit
set_option linter.unusedVariables false

set_option maxRecDepth 100000 in
set_option maxHeartbeats 2000000 in
theorem fits_joined (l : List ByteArray) (p : Option Addr) (n c : Nat) (w : World) (hn : l.length = n) (h0 : 0 < n) (hl : n ≤ 1048576) (hs : ∀ x ∈ l, x.size ≤ 1048576) (hr : Rd w p (tx l)) :
    Calls Try.prog 33 #[.slice p n c] w fun e w' => e = .returned (.bool (decide (sm l + l.length ≤ 4001))) ∧ Below w.heap.size w w' := by
  have HN := Lib.hid hn
  have HR0 := Lib.hid hr
  have HS := Lib.hid hs
  clear hn hr hs
  go_enter Try.func33, Try.ntmps33
  go_wp2_with fail
  go_loopw [3, 11] (fun s i wr => ∃ (k : Nat) (x : Int), k ≤ n ∧ i = .int .i64 k ∧ s = .int .i64 x ∧ 0 ≤ x ∧ x ≤ 2000000 ∧ Hid (x = (n : Int) - 1 + (sm (l.take k) : Int)) ∧ Hid (Below w.heap.size w wr)) (fun _ i _ => n - (intOf i).toNat)
  case atStart => exact ⟨0, _, Nat.zero_le _, rfl, rfl, by omega, by omega, Lib.hid (by simp [sm]), Lib.hid (Below.refl _ _)⟩
  case round =>
    obtain ⟨k, x, hk, rfl, rfl, x0, x1, HX, HB⟩ := hrel
    by_cases hlt : k < n
    · obtain ⟨b1, o1, y, rfl, hb1, hy, c0⟩ := (HR0.out.below HB.out).str (k := k) (by rw [HN.out]; exact hlt)
      have hys := HS.out y (List.mem_of_getElem? hy)
      have HK := Lib.hid (show sm (l.take (k + 1)) = sm (l.take k) + y.size by rw [tk_snocB hy, sm_snoc])
      have m0 : (0 : Int) ≤ (k : Int) := by omega
      have m1 : (k : Int) < (n : Int) := by omega
      have hyi : (y.size : Int) ≤ 1048576 := by omega
      clear hy hys
      by_cases hbig : 4000 < x
      · have HD := Lib.hid (show decide (sm l + l.length ≤ 4001) = false by
          have := sm_take l k
          have h := HX.out
          have h2 := HN.out
          simp; omega)
        go_wp2_with fail
        go_ret
        exact ⟨ret_bool HD.out.symm, HB.out⟩
      · go_wp2_with fail
        go_roundw
        case rel => exact ⟨k + 1, _, by omega, by go_num, rfl, by omega, by omega, Lib.hid (by rw [HK.out]; have := HX.out; omega), HB⟩
        case measure => simp [intOf]; omega
    · obtain rfl : k = n := by omega
      have HD := Lib.hid (show decide (x ≤ 4000) = decide (sm l + l.length ≤ 4001) by
        have h := HX.out
        rw [List.take_of_length_le (by rw [HN.out]; exact Nat.le_refl _)] at h
        have h2 := HN.out
        apply decide_eq_decide.2
        omega)
      go_wp2_with fail
      go_ret
      exact ⟨ret_bool HD.out, HB.out⟩

theorem join_strs (l : List ByteArray) (y : UInt8) (p : Option Addr) (n c : Nat) (w : World) (hn : l.length = n) (h0 : 0 < n) (hl : n ≤ 1048576) (hcp : n ≤ c) (hsz : sm l + l.length ≤ 4001) (hr : Rd w p (tx l)) :
    Calls Try.prog 35 #[.slice p n c, .string ⟨#[y]⟩] w fun e w' => e = .returned (.string (jT l y)) ∧ Below w.heap.size w w' := by
  obtain ⟨b, o, rfl, hb, hc⟩ := hr (by rw [tx_len, hn]; exact h0)
  have h := Try.strings_Join b o c l ⟨#[y]⟩ w (fun j x hx => hc j _ (by rw [tx_at, hx]; rfl)) hb (by omega) (by omega)
    (by have h1 := jl_len (l := l) y (by omega); unfold jl at h1; show (Lib.join (l.map (·.data.toList)) [y]).length ≤ _; omega)
  rw [hn] at h
  exact h
end Go.Proofs.Ytcjmlddpjbneiaa.cards
