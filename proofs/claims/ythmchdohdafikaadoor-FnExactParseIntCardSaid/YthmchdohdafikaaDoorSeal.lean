/- The model's and the program's checksums and seals: contracts over one translation. -/
import Derived.Test.YthmchdohdafikaaDoorRows
import Derived.Test.YthmchdohdafikaaDoorNum
import Derived.Test.YthmchdohdafikaaDoorOne
import Derived.Test.YthmchdohdafikaaDoorShelf
import Derived.WalkKit
import Derived.ProofKit
import Derived.OpenShut
import Derived.ShutString
import Derived.LoopTactic
import Derived.Below
import Derived.Outline
import Derived.BigQuiet
import Derived.Deep.QuietTactic
import Derived.Lib.AppendIntMem
import Derived.Lib.SmallJoins
namespace Go.Proofs.YthmchdohdafikaaDoor.sealing
open Go.RowKit
set_option linter.unusedVariables false

theorem ret_int {k : IntKind} {a b : Int} (h : a = b) : Ending.returned (.int k a) = .returned (.int k b) := by rw [h]
theorem ret_pair {k : IntKind} {a b : Int} {c : Bool} (h : a = b) : Ending.returned (.tuple #[.int k a, .bool c]) = .returned (.tuple #[.int k b, .bool c]) := by rw [h]
/-- One step of the checksum. -/
def ckStep (h : Int) (c : UInt8) : Int := (41 * h + (c.toNat : Int) + 1) % 999979
/-- The checksum of a list of bytes. -/
def ck (l : List UInt8) : Int := l.foldl ckStep 7
theorem ckStep_bd (h : Int) (c : UInt8) : 0 ≤ ckStep h c ∧ ckStep h c ≤ 999978 := by unfold ckStep; omega
theorem ck_snoc (l : List UInt8) (c : UInt8) : ck (l ++ [c]) = ckStep (ck l) c := by simp [ck, List.foldl_append]
theorem foldl_bd (l : List UInt8) : ∀ h : Int, 0 ≤ h → h ≤ 999978 → 0 ≤ l.foldl ckStep h ∧ l.foldl ckStep h ≤ 999978 := by
  induction l with
  | nil => intro h a b; exact ⟨a, b⟩
  | cons c r ih => intro h _ _; exact ih _ (ckStep_bd h c).1 (ckStep_bd h c).2
theorem ck_bd (l : List UInt8) : 0 ≤ ck l ∧ ck l ≤ 999978 := foldl_bd l 7 (by omega) (by omega)
theorem take_snoc (s : ByteArray) (k : Nat) (h : k < s.size) : s.data.toList.take (k + 1) = s.data.toList.take k ++ [s[k]] := by
  rw [List.take_succ_eq_append_getElem (by simpa using h)]; rfl

set_option maxHeartbeats 400000 in
theorem sum_any (s : ByteArray) (w : World) (hs : s.size ≤ 1048576) :
    Calls Tryd.prog 42 #[.string s] w fun e w' => e = .returned (.int .i64 (ck s.data.toList)) ∧ w = w' := by
  go_enter Tryd.func42, Tryd.ntmps42
  go_wp2
  go_loop [3, 4] (fun h i => ∃ k : Nat, k ≤ s.size ∧ i = .int .i64 k ∧ h = .int .i64 (ck (s.data.toList.take k))) (fun _ i => s.size - (intOf i).toNat)
  case atStart => exact ⟨0, Nat.zero_le _, rfl, rfl⟩
  case round =>
    obtain ⟨k, hk, rfl, rfl⟩ := hrel
    have hd := ck_bd (s.data.toList.take k)
    by_cases hlt : k < s.size
    · have hc : s[k].toNat < 256 := s[k].toNat_lt
      have HS : Hid (ck (s.data.toList.take (k + 1)) = ckStep (ck (s.data.toList.take k)) s[k]) := by rw [take_snoc s k hlt]; exact ck_snoc _ _
      go_wp2
      go_round
      case rel => exact ⟨k + 1, by omega, by go_num, by rw [HS.out]; unfold ckStep; go_num⟩
      case measure => simp [intOf]; omega
    · go_wp2
      go_ret
      exact ⟨ret_int (by rw [List.take_of_length_le (by simp; omega)]), rfl⟩

set_option maxHeartbeats 400000 in
theorem ck_in (s : ByteArray) (w : World) (h0 : s.size ≤ 4000) :
    Calls Tryd.prog 31 #[.string s] w fun e w' => e = .returned (.tuple #[.int .i64 (ck s.data.toList), .bool true]) ∧ w = w' := by
  go_enter Tryd.func31, Tryd.ntmps31
  go_wp2
  go_loop [4, 5, 11] (fun h j i => ∃ k : Nat, k ≤ s.size ∧ i = .int .i64 k ∧ h = .int .i64 (ck (s.data.toList.take k))) (fun _ _ i => s.size - (intOf i).toNat)
  case atStart => exact ⟨0, Nat.zero_le _, rfl, rfl⟩
  case round =>
    obtain ⟨k, hk, rfl, rfl⟩ := hrel
    have hd := ck_bd (s.data.toList.take k)
    by_cases hlt : k < s.size
    · have hc : s[k].toNat < 256 := s[k].toNat_lt
      have HS : Hid (ck (s.data.toList.take (k + 1)) = ckStep (ck (s.data.toList.take k)) s[k]) := by rw [take_snoc s k hlt]; exact ck_snoc _ _
      go_wp2
      go_round
      case rel => exact ⟨k + 1, by omega, by go_num, by rw [HS.out]; unfold ckStep; go_num⟩
      case measure => simp [intOf]; omega
    · go_wp2
      go_ret2
      exact ⟨ret_pair (by rw [List.take_of_length_le (by simp; omega)]), rfl⟩
theorem ck_out (s : ByteArray) (w : World) (hs : s.size ≤ 1048576) (h0 : ¬ s.size ≤ 4000) :
    Calls Tryd.prog 31 #[.string s] w fun e w' => e = .returned (.tuple #[.int .i64 0, .bool false]) ∧ w = w' := by
  go_enter Tryd.func31, Tryd.ntmps31
  go_wp2
  go_ret2
  exact ⟨rfl, rfl⟩

/-- The text of the checksum. -/
def tail (s : ByteArray) : List UInt8 := Lib.itoa (ck s.data.toList)
theorem tail_len (s : ByteArray) : (tail s).length ≤ 21 := Lib.itoa_length_le _ (by have := ck_bd s.data.toList; omega) (by have := ck_bd s.data.toList; omega)
/-- The sealed text. -/
def sealB (s : ByteArray) : ByteArray := s ++ ⟨#[35]⟩ ++ ⟨(tail s).toArray⟩
theorem seal_size (s : ByteArray) : (sealB s).size = s.size + 1 + (tail s).length := by simp [sealB, ByteArray.size_append]; rfl

theorem seal_any (s : ByteArray) (w : World) (hs : s.size ≤ 1048576) :
    Calls Tryd.prog 34 #[.string s] w fun e w' => e = .returned (.string (sealB s)) ∧ ∃ j, w' = w.drewN j := by
  have hb := ck_bd s.data.toList
  have HS := Lib.hid (sum_any s w hs)
  have HN := Lib.hid (num.num_all (ck s.data.toList) w (by omega) (by omega))
  have hl : (tail s).length ≤ 21 := tail_len s
  have HT : Hid (Ending.returned (.string (s ++ ⟨#[35]⟩ ++ ⟨(tail s).toArray⟩)) = Ending.returned (.string (sealB s))) := rfl
  go_enter Tryd.func34, Tryd.ntmps34
  go_wp2_with fail
  refine HS.out.mono ?_
  rintro e w1 ⟨rfl, rfl⟩
  go_wp2_with fail
  refine HN.out.mono ?_
  rintro e w1 ⟨rfl, j, rfl⟩
  rw [show Lib.itoa (ck s.data.toList) = tail s from rfl]
  go_wp2_with fail
  go_ret
  exact ⟨HT.out, j, rfl⟩

theorem ret_bool {a b : Bool} (h : a = b) : Ending.returned (.bool a) = .returned (.bool b) := by rw [h]
/-- The contents of a text that has no mark, or has one. -/
def marked (s : ByteArray) : Bool := s.data.toList.contains 35

set_option maxHeartbeats 400000 in
theorem stands_any (s : ByteArray) (w : World) (hs : s.size ≤ 1048576) :
    Calls Tryd.prog 33 #[.string s, .int .u8 35] w fun e w' => e = .returned (.bool (marked s)) ∧ w = w' := by
  go_enter Tryd.func33, Tryd.ntmps33
  go_wp2
  go_loop [5] (fun i => ∃ k : Nat, k ≤ s.size ∧ i = .int .i64 k ∧ (s.data.toList.take k).contains 35 = false) (fun i => s.size - (intOf i).toNat)
  case atStart => exact ⟨0, Nat.zero_le _, rfl, rfl⟩
  case round =>
    obtain ⟨k, hk, rfl, hf⟩ := hrel
    by_cases hlt : k < s.size
    · have HF := Lib.hid hf
      clear hf
      have HT := Lib.hid (take_snoc s k hlt)
      by_cases hc : s[k].toNat = 35
      · have hb : ((s[k].toNat : Int) == 35) = true := by simp [hc]
        have HM : Hid (marked s = true) := by
          show marked s = true
          unfold marked
          rw [List.contains_iff_mem]
          have : s[k] = 35 := UInt8.toNat.inj (by rw [hc]; rfl)
          rw [← this]
          exact List.getElem_mem (l := s.data.toList) (by simpa using hlt)
        clear hc
        go_wp2
        go_ret
        exact ⟨ret_bool HM.out.symm, rfl⟩
      · have hb : ((s[k].toNat : Int) == 35) = false := by simp; omega
        have HC : Hid ((35 : UInt8) ≠ s[k]) := by
          show (35 : UInt8) ≠ s[k]
          intro e; apply hc; rw [← e]; rfl
        clear hc
        go_wp2
        go_round
        case rel => exact ⟨k + 1, by omega, by go_num, by rw [HT.out]; have := HF.out; have h2 := HC.out; simp_all⟩
        case measure => simp [intOf]; omega
    · have HM : Hid (marked s = false) := by
        show marked s = false
        unfold marked
        rw [List.take_of_length_le (by simp; omega)] at hf
        exact hf
      clear hf
      go_wp2
      go_ret
      exact ⟨ret_bool HM.out.symm, rfl⟩

/-- When a text can be sealed. -/
def sealable (s : ByteArray) : Prop := s.size ≤ 4000 ∧ marked s = false ∧ (sealB s).size ≤ 4000
instance (s : ByteArray) : Decidable (sealable s) := by unfold sealable; exact inferInstance

set_option maxHeartbeats 400000 in
theorem spec_yes (s : ByteArray) (w : World) (hs : s.size ≤ 1048576) (h : sealable s) :
    Calls Tryd.prog 17 #[.string s] w fun e w' => e = .returned (.tuple #[.string (sealB s), .bool true]) ∧ ∃ j, w' = w.drewN j := by
  obtain ⟨h0, h1, h2⟩ := h
  have HB := Lib.hid (stands_any s w hs)
  have HS := Lib.hid (fun w => seal_any s w hs)
  have HM := Lib.hid h1
  clear h1
  go_enter Tryd.func17, Tryd.ntmps17
  go_wp2_with fail
  refine HB.out.mono ?_
  rw [HM.out]
  rintro e w1 ⟨rfl, rfl⟩
  go_wp2_with fail
  refine (HS.out _).mono ?_
  rintro e w1 ⟨rfl, j, rfl⟩
  go_wp2_with fail
  refine (HS.out _).mono ?_
  rintro e w1 ⟨rfl, i, rfl⟩
  go_wp2_with fail
  go_ret2
  exact ⟨rfl, _, rfl⟩

set_option maxHeartbeats 400000 in
theorem spec_no (s : ByteArray) (w : World) (hs : s.size ≤ 1048576) (h : ¬ sealable s) :
    Calls Tryd.prog 17 #[.string s] w fun e w' => e = .returned (.tuple #[.string ⟨#[]⟩, .bool false]) ∧ ∃ j, w' = w.drewN j := by
  by_cases h0 : s.size ≤ 4000
  · have HB := Lib.hid (stands_any s w hs)
    cases hm : marked s
    · have h2 : ¬ (sealB s).size ≤ 4000 := fun h2 => h ⟨h0, hm, h2⟩
      have HS := Lib.hid (fun w => seal_any s w hs)
      have HM := Lib.hid hm
      clear hm h
      go_enter Tryd.func17, Tryd.ntmps17
      go_wp2_with fail
      refine HB.out.mono ?_
      rw [HM.out]
      rintro e w1 ⟨rfl, rfl⟩
      go_wp2_with fail
      refine (HS.out _).mono ?_
      rintro e w1 ⟨rfl, j, rfl⟩
      go_wp2_with fail
      go_ret2
      exact ⟨rfl, _, rfl⟩
    · have HM := Lib.hid hm
      clear hm h
      go_enter Tryd.func17, Tryd.ntmps17
      go_wp2_with fail
      refine HB.out.mono ?_
      rw [HM.out]
      rintro e w1 ⟨rfl, rfl⟩
      go_wp2_with fail
      go_ret2
      exact ⟨rfl, 0, rfl⟩
  · clear h
    go_enter Tryd.func17, Tryd.ntmps17
    go_wp2_with fail
    go_ret2
    exact ⟨rfl, 0, rfl⟩

theorem has_any (s : ByteArray) (w : World) (hs : s.size ≤ 1048576) (hw : w.ShapedOpen Tryd.prog) :
    Calls Tryd.prog 32 #[.string s, .string ⟨#[35]⟩] w fun e w' => e = .returned (.bool (marked s)) ∧ w = w' := by
  have h := Tryd.strings_Contains_shaped s ⟨#[35]⟩ w hw (by omega)
  rw [show (ByteArray.mk #[35]).data.toList = [35] from rfl, one.contains_one] at h
  exact h.mono fun _ _ ⟨a, b⟩ => ⟨a, b.symm⟩

set_option maxHeartbeats 400000 in
theorem impl_yes (s : ByteArray) (w : World) (hs : s.size ≤ 1048576) (hw : w.ShapedOpen Tryd.prog) (ht : Lib.TabIs Tryd.prog w "internal/strconv.uint64pow10" .u64 Lib.pow10Tab) (h : sealable s) :
    Calls Tryd.prog 16 #[.string s] w fun e w' => e = .returned (.tuple #[.string (sealB s), .bool true]) ∧ Below w.heap.size w w' := by
  obtain ⟨h0, h1, h2⟩ := h
  rw [seal_size] at h2
  have hb := ck_bd s.data.toList
  have hl : (tail s).length ≤ 21 := tail_len s
  have HC := Lib.hid (ck_in s w h0)
  have HB := Lib.hid (has_any s w hs hw)
  have HN := Lib.hid (Tryd.strconv_Itoa (ck s.data.toList) (by omega) (by omega) w ht)
  have HM := Lib.hid h1
  clear h1 ht hw
  have HT : Hid (Ending.returned (.tuple #[.string (s ++ ⟨#[35]⟩ ++ ⟨(tail s).toArray⟩), .bool true]) = Ending.returned (.tuple #[.string (sealB s), .bool true])) := rfl
  go_enter Tryd.func16, Tryd.ntmps16
  go_wp2_with fail
  refine HC.out.mono ?_
  rintro e w1 ⟨rfl, rfl⟩
  go_wp2_with fail
  refine HB.out.mono ?_
  rw [HM.out]
  rintro e w1 ⟨rfl, rfl⟩
  go_wp2_with fail
  refine HN.out.mono ?_
  rintro e w1 ⟨rfl, k, os, rfl⟩
  rw [show Lib.itoa (ck s.data.toList) = tail s from rfl]
  have HW := Lib.hid (Lib.below_grow w.heap.size w (Nat.le_refl _) k os)
  go_wp2_with fail
  go_ret2
  exact ⟨HT.out, HW.out⟩

set_option maxHeartbeats 400000 in
theorem impl_no (s : ByteArray) (w : World) (hs : s.size ≤ 1048576) (hw : w.ShapedOpen Tryd.prog) (ht : Lib.TabIs Tryd.prog w "internal/strconv.uint64pow10" .u64 Lib.pow10Tab) (h : ¬ sealable s) :
    Calls Tryd.prog 16 #[.string s] w fun e w' => e = .returned (.tuple #[.string ⟨#[]⟩, .bool false]) ∧ Below w.heap.size w w' := by
  by_cases h0 : s.size ≤ 4000
  · have HC := Lib.hid (ck_in s w h0)
    have HB := Lib.hid (has_any s w hs hw)
    cases hm : marked s
    · have h2 : ¬ (sealB s).size ≤ 4000 := fun h2 => h ⟨h0, hm, h2⟩
      rw [seal_size] at h2
      have hb := ck_bd s.data.toList
      have hl : (tail s).length ≤ 21 := tail_len s
      have HN := Lib.hid (Tryd.strconv_Itoa (ck s.data.toList) (by omega) (by omega) w ht)
      have HM := Lib.hid hm
      clear hm ht hw h
      go_enter Tryd.func16, Tryd.ntmps16
      go_wp2_with fail
      refine HC.out.mono ?_
      rintro e w1 ⟨rfl, rfl⟩
      go_wp2_with fail
      refine HB.out.mono ?_
      rw [HM.out]
      rintro e w1 ⟨rfl, rfl⟩
      go_wp2_with fail
      refine HN.out.mono ?_
      rintro e w1 ⟨rfl, k, os, rfl⟩
      rw [show Lib.itoa (ck s.data.toList) = tail s from rfl]
      have HW := Lib.hid (Lib.below_grow w.heap.size w (Nat.le_refl _) k os)
      go_wp2_with fail
      go_ret2
      exact ⟨rfl, HW.out⟩
    · have HM := Lib.hid hm
      clear hm ht hw h
      go_enter Tryd.func16, Tryd.ntmps16
      go_wp2_with fail
      refine HC.out.mono ?_
      rintro e w1 ⟨rfl, rfl⟩
      go_wp2_with fail
      refine HB.out.mono ?_
      rw [HM.out]
      rintro e w1 ⟨rfl, rfl⟩
      go_wp2_with fail
      go_ret2
      exact ⟨rfl, Below.refl _ _⟩
  · have HC := Lib.hid (ck_out s w hs h0)
    clear ht hw h
    go_enter Tryd.func16, Tryd.ntmps16
    go_wp2_with fail
    refine HC.out.mono ?_
    rintro e w1 ⟨rfl, rfl⟩
    go_wp2_with fail
    go_ret2
    exact ⟨rfl, Below.refl _ _⟩
end Go.Proofs.YthmchdohdafikaaDoor.sealing
