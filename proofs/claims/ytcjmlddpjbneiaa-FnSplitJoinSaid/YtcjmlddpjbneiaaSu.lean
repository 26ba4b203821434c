/- Slices of texts: copies, and a byte that stands in a text. -/
import Derived.Test.YtcjmlddpjbneiaaSq
namespace Go.Proofs.Ytcjmlddpjbneiaa.cards
open Go.RowKit
set_option linter.unusedVariables false

theorem str_info : ((Try.prog).info? 9).map (fun i => (i.zero, i.size, i.bytes)) = some (some (.string ⟨#[]⟩), 1, 16) := by kernel_rfl
/-- A new row of n texts. -/
theorem made_strs (n : Nat) (hn : n ≤ 1000000000) (w : World) : (Instr.makeSlice 26 (.int .i64 n) (.int .i64 n)).run Try.prog w = .ok (.slice (some ⟨w.heap.size, 0, none⟩) n n) (w.alloc (.cells (madeCells (Value.string ⟨#[]⟩).cells n) 9)) := by
  obtain ⟨i, hi, hz, hs, hb⟩ := info_parts str_info
  have h := run_make (P := Try.prog) w 26 9 i _ Try.underlying26 hi hz .i64 .i64 n n (by omega) (by omega) (by rw [hb]; omega) (by omega)
  rw [hs] at h
  simpa using h

set_option maxRecDepth 100000 in
set_option maxHeartbeats 4000000 in
theorem to_texts (l : List ByteArray) (p : Option Addr) (n c : Nat) (w : World) (hn : l.length = n) (hl : n ≤ 1048576) (hr : Rd w p (tx l)) :
    Calls Try.prog 26 #[.slice p n c] w fun e w' => ∃ p' c', e = .returned (.slice p' n c') ∧ Rd w' p' (tx l) ∧ n ≤ c' ∧ Below w.heap.size w w' := by
  have HN := Lib.hid hn
  have HR0 := Lib.hid hr
  have hmk := made_strs n (by omega)
  clear hn hr
  go_enter Try.func26, Try.ntmps26
  go_wp2_with fail
  clear hmk
  go_loopw [4] (fun i wr => ∃ (k : Nat) (cs : Array Value), k ≤ n ∧ i = .int .i64 k ∧ Hid (cs.size = n) ∧ Hid (wr.heap[w.heap.size]? = some (.cells cs 9)) ∧ Hid (∀ j, j < k → cs[j]? = (l[j]?).map Value.string) ∧ Hid (Below w.heap.size w wr)) (fun i _ => n - (intOf i).toNat)
  case atStart => exact ⟨0, _, Nat.zero_le _, rfl, Lib.hid (size_madeCells _ _), Lib.hid (heap_alloc_new w _), Lib.hid (fun j hj => absurd hj (Nat.not_lt_zero _)), Lib.hid ((Below.refl _ _).alloc (Nat.le_refl _) _)⟩
  case round =>
    obtain ⟨k, cs, hk, rfl, Hsz, HG, HX, HB⟩ := hrel
    by_cases hlt : k < n
    · obtain ⟨b, o, x, rfl, hb, hx, c0⟩ := (HR0.out.below HB.out).str (k := k) (by rw [HN.out]; exact hlt)
      have HXe := Lib.hid hx
      have m0 : (0 : Int) ≤ (k : Int) := by omega
      have m1 : (k : Int) < (n : Int) := by omega
      obtain ⟨old, hold⟩ : ∃ old, cs[k]? = some old := ⟨cs[k]'(by rw [Hsz.out]; exact hlt), Array.getElem?_eq_getElem _⟩
      have hc : wr.cell? ⟨w.heap.size, k, none⟩ = some old := (cell_of_row wr w.heap.size k _ _ _ HG.out).trans hold
      have hf : wr.frozen? ⟨w.heap.size, k, none⟩ = false := frozen_of_row wr w.heap.size k _ _ HG.out
      clear hx hold
      go_wp2_with fail
      go_roundw
      case rel => exact ⟨k + 1, _, by omega, by go_num, Lib.hid (by rw [Array.size_setIfInBounds]; exact Hsz.out), Lib.hid (heap_setCell_same wr w.heap.size k cs _ _ HG.out), Lib.hid (fun j hj => by
        rw [Array.getElem?_setIfInBounds]
        by_cases e : k = j
        · subst e
          rw [if_pos rfl, if_pos (by rw [Hsz.out]; exact hlt), HXe.out]; rfl
        · rw [if_neg e]; exact HX.out j (by omega)), Lib.hid (by repeat (first | with_reducible exact Below.refl _ _ | with_reducible exact HB.out | with_reducible apply Below.drew | with_reducible apply bdN | with_reducible refine Below.alloc ?_ (by first | exact Nat.le_refl _ | with_reducible exact HB.out.size | omega | (simp; done) | (simp; omega) | (have := HB.out.size; simp at *; omega)) _ | with_reducible refine Below.setCell ?_ (by first | exact Nat.le_refl _ | with_reducible exact HB.out.size | omega | (simp; done) | (simp; omega) | (have := HB.out.size; simp at *; omega)) _))⟩
      case measure => simp [intOf]; omega
    · obtain rfl : k = n := by omega
      go_wp2_with fail
      go_ret
      refine ⟨_, _, rfl, fun hp => ⟨w.heap.size, 0, rfl, (Array.getElem?_eq_some_iff.1 HG.out).1, fun j v hv => ?_⟩, Nat.le_refl _, HB.out⟩
      rw [Nat.zero_add, cell_of_row _ w.heap.size j cs _ _ HG.out]
      have hj : j < k := by have := (List.getElem?_eq_some_iff.1 hv).1; rw [tx_len, HN.out] at this; exact this
      rw [HX.out j hj, ← tx_at]; exact hv

theorem bytes_snoc (s : ByteArray) (k : Nat) (h : k < s.size) : s.data.toList.take (k + 1) = s.data.toList.take k ++ [s[k]] := by
  rw [List.take_succ_eq_append_getElem (by simpa using h)]; rfl
/-- Does the byte stand in the text? -/
def hasB (s : ByteArray) (b : UInt8) : Bool := s.data.toList.contains b

set_option maxRecDepth 100000 in
set_option maxHeartbeats 1000000 in
theorem l1_stands (s : ByteArray) (b : UInt8) (w : World) (hs : s.size ≤ 1048576) :
    Calls Try.prog 36 #[.string s, .int .u8 b.toNat] w fun e w' => e = .returned (.bool (hasB s b)) ∧ w = w' := by
  have hb : b.toNat < 256 := b.toNat_lt
  go_enter Try.func36, Try.ntmps36
  go_wp2_with fail
  go_loop [5] (fun i => ∃ k : Nat, k ≤ s.size ∧ i = .int .i64 k ∧ Hid ((s.data.toList.take k).contains b = false)) (fun i => s.size - (intOf i).toNat)
  case atStart => exact ⟨0, Nat.zero_le _, rfl, Lib.hid rfl⟩
  case round =>
    obtain ⟨k, hk, rfl, HF⟩ := hrel
    by_cases hlt : k < s.size
    · have HT := Lib.hid (bytes_snoc s k hlt)
      have hc' : s[k].toNat < 256 := s[k].toNat_lt
      by_cases hc : s[k].toNat = b.toNat
      · have hb : ((s[k].toNat : Int) == (b.toNat : Int)) = true := by simp [hc]
        have HM : Hid (hasB s b = true) := Lib.hid (by
          unfold hasB
          rw [List.contains_iff_mem]
          have : s[k] = b := UInt8.toNat.inj hc
          rw [← this]
          exact List.getElem_mem (l := s.data.toList) (by simpa using hlt))
        have HCh := Lib.hid hc
        clear hc
        go_wp2_with fail
        go_ret
        exact ⟨ret_bool HM.out.symm, rfl⟩
      · have hb : ((s[k].toNat : Int) == (b.toNat : Int)) = false := by simp; omega
        have HC : Hid (b ≠ s[k]) := Lib.hid (fun e => hc (by rw [← e]))
        clear hc
        go_wp2_with fail
        go_round
        case rel => exact ⟨k + 1, by omega, by go_num, Lib.hid (by rw [HT.out]; have := HF.out; have h2 := HC.out; simp_all)⟩
        case measure => simp [intOf]; omega
    · have HM : Hid (hasB s b = false) := Lib.hid (by
        have h := HF.out
        rw [List.take_of_length_le (by simp; omega)] at h
        exact h)
      go_wp2_with fail
      go_ret
      exact ⟨ret_bool HM.out.symm, rfl⟩
end Go.Proofs.Ytcjmlddpjbneiaa.cards
