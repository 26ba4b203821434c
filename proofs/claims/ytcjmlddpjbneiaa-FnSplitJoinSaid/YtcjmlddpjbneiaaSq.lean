/- Slices of texts: how they come in, and the law's own functions on them. -/
import Derived.Test.YtcjmlddpjbneiaaHw
import Derived.SliceStrings
namespace Go.Proofs.Ytcjmlddpjbneiaa.cards
open Go.RowKit
set_option linter.unusedVariables false

def tx (l : List ByteArray) : List Value := l.map Value.string
theorem tx_len (l : List ByteArray) : (tx l).length = l.length := by simp [tx]
theorem tx_at (l : List ByteArray) (j : Nat) : (tx l)[j]? = (l[j]?).map Value.string := by simp [tx]
theorem Rd.str {w : World} {p : Option Addr} {l : List ByteArray} (h : Rd w p (tx l)) {k : Nat} (hk : k < l.length) : ∃ b o x, p = some ⟨b, o, none⟩ ∧ b < w.heap.size ∧ l[k]? = some x ∧ w.cell? ⟨b, o + k, none⟩ = some (.string x) := by
  obtain ⟨b, o, e, hlt, hc⟩ := h (by rw [tx_len]; omega)
  exact ⟨b, o, l[k], e, hlt, List.getElem?_eq_getElem hk, hc k _ (by simp [tx, hk])⟩

/-- What is left of a, behind these texts. -/
def szg : List ByteArray → Int → Int
  | [], a => a
  | x :: r, a => if a - x.size < 0 then -1 else szg r (a - x.size)
def szv (l : List ByteArray) (a : Int) : Int := if a - l.length < 0 then -1 else szg l (a - l.length)
theorem szg_bd : ∀ (l : List ByteArray) (a : Int), 0 ≤ szg l a → ∀ x ∈ l, (x.size : Int) ≤ a
  | [], a, h, x, hx => by simp at hx
  | y :: r, a, h, x, hx => by
    unfold szg at h
    split at h
    · omega
    · rcases List.mem_cons.1 hx with rfl | hx
      · omega
      · have := szg_bd r _ h x hx
        omega
theorem szv_bd {l : List ByteArray} {a : Int} (h : ¬ szv l a < 0) : (l.length : Int) ≤ a ∧ ∀ x ∈ l, (x.size : Int) ≤ a := by
  unfold szv at h
  split at h
  · omega
  · exact ⟨by omega, fun x hx => by have := szg_bd l (a - (l.length : Int)) (by omega) x hx; omega⟩
theorem szg_drop {l : List ByteArray} {k : Nat} {x : ByteArray} {a : Int} (h : l[k]? = some x) : szg (l.drop k) a = if a - x.size < 0 then -1 else szg (l.drop (k + 1)) (a - x.size) := by
  obtain ⟨hk, e⟩ := List.getElem?_eq_some_iff.1 h
  rw [List.drop_eq_getElem_cons hk, e, szg]

set_option maxRecDepth 100000 in
set_option maxHeartbeats 2000000 in
theorem sz_texts (l : List ByteArray) (p : Option Addr) (n c : Nat) (w : World) (hn : l.length = n) (hl : n ≤ maxLen) (hs : ∀ x ∈ l, x.size ≤ maxLen) (hr : Rd w p (tx l)) :
    Calls Try.prog 25 #[.slice p n c, .int .i64 1048576] w fun e w' => e = .returned (.int .i64 (szv l 1048576)) ∧ w = w' := by
  unfold maxLen at hl hs
  have HN := Lib.hid hn
  have HR := Lib.hid hr
  have HS := Lib.hid hs
  by_cases h0 : (1048576 : Int) - n < 0
  · have HV := Lib.hid (show szv l 1048576 = -1 by unfold szv; rw [hn, if_pos h0])
    clear hn hr hs
    go_enter Try.func25, Try.ntmps25
    go_wp2_with fail
    go_ret
    exact ⟨ret_int HV.out.symm, rfl⟩
  · have HV := Lib.hid (show szv l 1048576 = szg l (1048576 - n) by unfold szv; rw [hn, if_neg h0])
    clear hn hr hs
    go_enter Try.func25, Try.ntmps25
    go_wp2_with fail
    go_loopw [1, 5] (fun a i wr => ∃ (k : Nat) (x : Int), k ≤ n ∧ i = .int .i64 k ∧ a = .int .i64 x ∧ 0 ≤ x ∧ x ≤ 1048576 ∧ Hid (szg (l.drop k) x = szv l 1048576) ∧ Hid (w = wr)) (fun _ i _ => n - (intOf i).toNat)
    case atStart => exact ⟨0, _, Nat.zero_le _, rfl, rfl, by omega, by omega, Lib.hid (by rw [HV.out]; rfl), Lib.hid rfl⟩
    case round =>
      obtain ⟨k, x, hk, rfl, rfl, x0, x1, HX, HW⟩ := hrel
      obtain rfl := HW.out
      by_cases hlt : k < n
      · obtain ⟨b, o, y, rfl, hb, hy, c0⟩ := HR.out.str (k := k) (by rw [HN.out]; exact hlt)
        have hE := szg_drop (a := x) hy
        have hys := HS.out y (List.mem_of_getElem? hy)
        have m0 : (0 : Int) ≤ (k : Int) := by omega
        have m1 : (k : Int) < (n : Int) := by omega
        obtain ⟨z, hz⟩ : ∃ z : Nat, y.size = z := ⟨_, rfl⟩
        have hzz : y.size ≤ 9223372036854775807 := hys
        rw [hz] at hE hys
        have HE := Lib.hid hE
        have HZ := Lib.hid hz
        have hz2 : (y.size : Int) ≤ 9223372036854775807 := by omega
        clear hE hz hy
        by_cases hc : x - (y.size : Int) < 0
        · have HV2 := Lib.hid (show szv l 1048576 = -1 by rw [← HX.out, HE.out, if_pos (by rw [← HZ.out]; exact hc)])
          go_wp2_with fail
          go_ret
          exact ⟨ret_int HV2.out.symm, rfl⟩
        · have HV2 := Lib.hid (show szg (l.drop (k + 1)) (x - (y.size : Int)) = szv l 1048576 by rw [← HX.out, HE.out, if_neg (by rw [← HZ.out]; exact hc), HZ.out])
          go_wp2_with fail
          go_roundw
          case rel => exact ⟨k + 1, _, by omega, by go_num, rfl, by omega, by omega, HV2, by first | exact trivial | exact Lib.hid rfl | exact Lib.hid trivial⟩
          case measure => simp [intOf]; omega
      · obtain rfl : k = n := by omega
        have HV2 := Lib.hid (show x = szv l 1048576 by have := HX.out; rw [List.drop_of_length_le (by rw [HN.out]; exact Nat.le_refl _)] at this; exact this)
        go_wp2_with fail
        go_ret
        exact ⟨ret_int HV2.out, rfl⟩

set_option maxRecDepth 100000 in
set_option maxHeartbeats 2000000 in
theorem eq_texts (l : List ByteArray) (p1 p2 : Option Addr) (n c1 c2 : Nat) (w : World) (hn : l.length = n) (hl : n ≤ 1000000000) (hr1 : Rd w p1 (tx l)) (hr2 : Rd w p2 (tx l)) :
    Calls Try.prog 27 #[.slice p1 n c1, .slice p2 n c2] w fun e w' => e = .returned (.bool true) ∧ Below w.heap.size w w' := by
  have HN := Lib.hid hn
  have H1 := Lib.hid hr1
  have H2 := Lib.hid hr2
  clear hn hr1 hr2
  go_enter Try.func27, Try.ntmps27
  go_wp2_with fail
  go_loopw [5] (fun i wr => ∃ k : Nat, k ≤ n ∧ i = .int .i64 k ∧ Hid (Below w.heap.size w wr)) (fun i _ => n - (intOf i).toNat)
  case atStart => exact ⟨0, Nat.zero_le _, rfl, Below.refl _ _⟩
  case round =>
    obtain ⟨k, hk, rfl, HB⟩ := hrel
    by_cases hlt : k < n
    · obtain ⟨b, o, x, rfl, hb, hx, c0⟩ := (H1.out.below HB.out).str (k := k) (by rw [HN.out]; exact hlt)
      obtain ⟨b2, o2, y, rfl, hb2, hy, d0⟩ := (H2.out.below HB.out).str (k := k) (by rw [HN.out]; exact hlt)
      rw [hx] at hy
      injection hy with hy
      subst hy
      have m0 : (0 : Int) ≤ (k : Int) := by omega
      have m1 : (k : Int) < (n : Int) := by omega
      clear hx
      go_wp2_with fail
      have qc0 := fun d os => cell_regrown c0 d os
      have qd0 := fun d os => cell_regrown d0 d os
      refine wp_region_quiet_below (by kernel_rfl) (by kernel_rfl) ?_
      repeat (first | go_big_quiet_step ((fail)) | quiet_step ((fail)))
      refine wpQuiet_nil ?_
      intro w2 hw2
      have b : Below wr.heap.size wr w2 := by obtain ⟨r, hr⟩ := hw2; rw [hr]; exact below_regrown _ _ _
      clear hw2 qc0 qd0
      have Sw2 := Lib.hid b.size
      have HB := Lib.hid (chain0 (w := w) (by repeat (first | with_reducible exact Below.refl _ _ | with_reducible exact HB.out | with_reducible apply Below.drew | with_reducible apply bdN | with_reducible refine Below.alloc ?_ (by first | exact Nat.le_refl _ | with_reducible exact HB.out.size | omega | (simp; done) | (simp; omega) | (have := HB.out.size; simp at *; omega)) _ | with_reducible refine Below.setCell ?_ (by first | exact Nat.le_refl _ | with_reducible exact HB.out.size | omega | (simp; done) | (simp; omega) | (have := HB.out.size; simp at *; omega)) _)) b)
      clear b
      clear c0 d0
      go_wp2_with fail
      go_roundw
      case rel => exact ⟨k + 1, by omega, by go_num, HB⟩
      case measure => simp [intOf]; omega
    · obtain rfl : k = n := by omega
      go_wp2_with fail
      go_ret
      exact ⟨rfl, HB.out⟩
end Go.Proofs.Ytcjmlddpjbneiaa.cards
