/- The model's and the program's ParseInt: contracts over one translation. -/
import Derived.Test.YthmchdohdafikaaDoorNum
import Derived.Test.YthmchdohdafikaaDoorParse
import Derived.Test.YthmchdohdafikaaDoorShelf
import Derived.WalkKit
import Derived.ProofKit
import Derived.LoopTactic
import Derived.OwnWalk
import Derived.Outline
import Derived.Below
import Derived.Lib.Hide
import Derived.Lib.AppendIntMem
import Derived.Lib.SmallJoins
import Derived.Lib.Strings
namespace Go.Proofs.YthmchdohdafikaaDoor.read
open Go.RowKit
set_option linter.unusedVariables false

theorem take_snoc (s : ByteArray) (k : Nat) (h : k < s.size) : s.data.toList.take (k + 1) = s.data.toList.take k ++ [s[k]] := by
  rw [List.take_succ_eq_append_getElem (by simpa using h)]; rfl
theorem snoc_val (s : ByteArray) (k m : Nat) (h : k < s.size) (hm : Lib.decFrom 0 (s.data.toList.take k) = some m) (h0 : 48 ≤ s[k].toNat) (h1 : s[k].toNat ≤ 57) : Lib.decFrom 0 (s.data.toList.take (k + 1)) = some (m * 10 + (s[k].toNat - 48)) := by
  rw [take_snoc s k h, parse.decFrom_snoc, hm]
  simp [Lib.digitVal, h0, h1]
theorem val_lt (s : ByteArray) (k m : Nat) (hk : k ≤ 6) (hm : Lib.decFrom 0 (s.data.toList.take k) = some m) : m ≤ 999999 := by
  have h := Lib.decFrom_lt _ 0 m hm
  have h2 : (s.data.toList.take k).length ≤ 6 := by rw [List.length_take]; omega
  have h3 : 10 ^ (s.data.toList.take k).length ≤ 10 ^ 6 := Nat.pow_le_pow_right (by omega) h2
  omega

/-- What spec.l1Read hands back. -/
def ReadPost (s : ByteArray) (w : World) (e : Ending) (w' : World) : Prop :=
  ((∃ v, e = .returned (.tuple #[.int .i64 v, .bool true]) ∧ parse.Good s.data.toList v) ∨ (e = .returned (.tuple #[.int .i64 0, .bool false]) ∧ ∀ v, ¬ parse.Good s.data.toList v)) ∧ ∃ j, w' = w.drewN j
theorem post_no (s : ByteArray) (w : World) (j : Nat) (h : ∀ v, ¬ parse.Good s.data.toList v) : ReadPost s w (.returned (.tuple #[.int .i64 0, .bool false])) (w.drewN j) := ⟨.inr ⟨rfl, h⟩, j, rfl⟩
theorem post_yes (s : ByteArray) (w : World) (j : Nat) (v : Int) (h : parse.Good s.data.toList v) : ReadPost s w (.returned (.tuple #[.int .i64 v, .bool true])) (w.drewN j) := ⟨.inl ⟨v, rfl, h⟩, j, rfl⟩

/-- No sign ahead. -/
def NoSign (s : ByteArray) : Prop := ∀ r, s.data.toList = 45 :: r → r = []
theorem no_len (s : ByteArray) (hn : NoSign s) (h : s.size < 1 ∨ 6 < s.size) (v : Int) : ¬ parse.Good s.data.toList v := by
  intro g
  obtain ⟨hv, e⟩ := parse.good_pos g hn
  have a := parse.dec_six v.natAbs (by have := g.2.1; omega)
  have b := parse.dec_pos v.natAbs
  have hl : s.size = (Lib.decDigits v.natAbs).length := by rw [← e]; simp
  omega
theorem no_digit (s : ByteArray) (hn : NoSign s) (k : Nat) (hk : k < s.size) (h : s[k].toNat < 48 ∨ 57 < s[k].toNat) (v : Int) : ¬ parse.Good s.data.toList v := by
  intro g
  obtain ⟨hv, e⟩ := parse.good_pos g hn
  have hm : s[k] ∈ s.data.toList := List.getElem_mem (l := s.data.toList) (by simpa using hk)
  rw [e] at hm
  have := parse.dec_mem v.natAbs v.natAbs (Nat.le_refl _) _ hm
  omega
theorem no_num (s : ByteArray) (hn : NoSign s) (m : Nat) (hm : Lib.decFrom 0 s.data.toList = some m) (h : ¬ Lib.itoa (m : Int) = s.data.toList) (v : Int) : ¬ parse.Good s.data.toList v := by
  intro g
  obtain ⟨hv, e⟩ := parse.good_pos g hn
  rw [e, parse.dec_digits v.natAbs v.natAbs (Nat.le_refl _)] at hm
  obtain rfl : v.natAbs = m := Option.some.inj hm
  apply h
  rw [show ((v.natAbs : Nat) : Int) = v by omega]
  exact g.2.2

theorem in_yes (x : Int) (w : World) (h1 : 1 ≤ x) (h6 : x ≤ 6) : Calls Tryd.prog 24 #[.int .i64 x, .int .i64 1, .int .i64 6] w fun e w' => e = .returned (.bool true) ∧ w = w' := by
  have d1 : decide (1 ≤ x) = true := by simp; omega
  have d6 : decide (x ≤ 6) = true := by simp; omega
  go_enter Tryd.func24, Tryd.ntmps24
  go_wp2_with fail
  go_ret
  exact ⟨rfl, rfl⟩
theorem in_no (x : Int) (w : World) (h : x < 1 ∨ 6 < x) : Calls Tryd.prog 24 #[.int .i64 x, .int .i64 1, .int .i64 6] w fun e w' => e = .returned (.bool false) ∧ w = w' := by
  rcases h with h | h
  · have d1 : decide (1 ≤ x) = false := by simp; omega
    go_enter Tryd.func24, Tryd.ntmps24
    go_wp2_with fail
    go_ret
    exact ⟨rfl, rfl⟩
  · have d1 : decide (1 ≤ x) = true := by simp; omega
    have d6 : decide (x ≤ 6) = false := by simp; omega
    go_enter Tryd.func24, Tryd.ntmps24
    go_wp2_with fail
    go_ret
    exact ⟨rfl, rfl⟩

set_option maxHeartbeats 1000000 in
theorem read_two (s : ByteArray) (w : World) (hs : s.size ≤ 1048576) (hn : NoSign s) (h2 : 1 < s.size) (h0 : s[0].toNat ≠ 45) :
    Calls Tryd.prog 29 #[.string s] w (ReadPost s w) := by
  have HN := Lib.hid hn
  have hz : ((s[0].toNat : Int) == 45) = false := by simp; omega
  clear h0
  by_cases hr : 1 ≤ s.size ∧ s.size ≤ 6
  · obtain ⟨h1, h6⟩ := hr
    clear hn
    have HI := Lib.hid (in_yes s.size w (by omega) (by omega))
    go_enter Tryd.func29, Tryd.ntmps29
    go_wp2_with fail
    refine HI.out.mono ?_
    rintro e w1 ⟨rfl, rfl⟩
    go_wp2_with fail
    go_loop [5, 6] (fun n i => ∃ k m : Nat, k ≤ s.size ∧ i = .int .i64 k ∧ n = .int .i64 m ∧ Hid (Lib.decFrom 0 (s.data.toList.take k) = some m)) (fun _ i => s.size - (intOf i).toNat)
    case atStart => exact ⟨0, 0, Nat.zero_le _, rfl, rfl, rfl⟩
    case round =>
      obtain ⟨k, m, hk, rfl, rfl, HM⟩ := hrel
      have hb := val_lt s k m (by omega) HM.out
      by_cases hlt : k < s.size
      · by_cases hd : 48 ≤ s[k].toNat ∧ s[k].toNat ≤ 57
        · obtain ⟨h48, h57⟩ := hd
          have HV := Lib.hid (snoc_val s k m hlt HM.out h48 h57)
          clear HM
          go_wp2_with fail
          go_round
          case rel => exact ⟨k + 1, m * 10 + (s[k].toNat - 48), by omega, by go_num, by go_num, HV⟩
          case measure => simp [intOf]; omega
        · have HX := Lib.hid (no_digit s HN.out k hlt (by omega))
          by_cases h48 : s[k].toNat < 48
          · clear HM hd
            go_wp2_with fail
            go_ret2
            exact post_no s w 0 HX.out
          · have h57 : 57 < s[k].toNat := by omega
            clear HM hd
            go_wp2_with fail
            go_ret2
            exact post_no s w 0 HX.out
      · have hlist : s.data.toList.take k = s.data.toList := List.take_of_length_le (by simp; omega)
        have hm := HM.out
        rw [hlist] at hm
        have HM2 := Lib.hid hm
        have HC := Lib.hid (num.num_all (m : Int) w (by omega) (by omega))
        clear hlist HM hm
        by_cases he : Lib.itoa (m : Int) = s.data.toList
        · have hq : (Lib.itoa (m : Int) == s.toList) = true := by
            rw [beq_iff_eq, ByteArray.toList_eq]; exact he
          have HG := Lib.hid (show parse.Good s.data.toList (m : Int) from ⟨by omega, by omega, he⟩)
          clear he
          go_wp2_with fail
          refine HC.out.mono ?_
          rintro e w1 ⟨rfl, j, rfl⟩
          go_wp2_with fail
          go_ret2
          exact post_yes s w j m HG.out
        · have hq : (Lib.itoa (m : Int) == s.toList) = false := by
            rw [beq_eq_false_iff_ne, ByteArray.toList_eq]; exact he
          have HX := Lib.hid (no_num s HN.out m HM2.out he)
          clear he
          go_wp2_with fail
          refine HC.out.mono ?_
          rintro e w1 ⟨rfl, j, rfl⟩
          go_wp2_with fail
          go_ret2
          exact post_no s w j HX.out
  · have HX := Lib.hid (no_len s HN.out (by omega))
    clear hn
    have HI := Lib.hid (in_no s.size w (by omega))
    clear hr
    go_enter Tryd.func29, Tryd.ntmps29
    go_wp2_with fail
    refine HI.out.mono ?_
    rintro e w1 ⟨rfl, rfl⟩
    go_wp2_with fail
    go_ret2
    exact post_no s w 0 HX.out

set_option maxHeartbeats 1000000 in
theorem read_one (s : ByteArray) (w : World) (hs : s.size ≤ 1048576) (hn : NoSign s) (h2 : ¬ 1 < s.size) :
    Calls Tryd.prog 29 #[.string s] w (ReadPost s w) := by
  have HN := Lib.hid hn

  by_cases hr : 1 ≤ s.size ∧ s.size ≤ 6
  · obtain ⟨h1, h6⟩ := hr
    clear hn
    have HI := Lib.hid (in_yes s.size w (by omega) (by omega))
    go_enter Tryd.func29, Tryd.ntmps29
    go_wp2_with fail
    refine HI.out.mono ?_
    rintro e w1 ⟨rfl, rfl⟩
    go_wp2_with fail
    go_loop [5, 6] (fun n i => ∃ k m : Nat, k ≤ s.size ∧ i = .int .i64 k ∧ n = .int .i64 m ∧ Hid (Lib.decFrom 0 (s.data.toList.take k) = some m)) (fun _ i => s.size - (intOf i).toNat)
    case atStart => exact ⟨0, 0, Nat.zero_le _, rfl, rfl, rfl⟩
    case round =>
      obtain ⟨k, m, hk, rfl, rfl, HM⟩ := hrel
      have hb := val_lt s k m (by omega) HM.out
      by_cases hlt : k < s.size
      · by_cases hd : 48 ≤ s[k].toNat ∧ s[k].toNat ≤ 57
        · obtain ⟨h48, h57⟩ := hd
          have HV := Lib.hid (snoc_val s k m hlt HM.out h48 h57)
          clear HM
          go_wp2_with fail
          go_round
          case rel => exact ⟨k + 1, m * 10 + (s[k].toNat - 48), by omega, by go_num, by go_num, HV⟩
          case measure => simp [intOf]; omega
        · have HX := Lib.hid (no_digit s HN.out k hlt (by omega))
          by_cases h48 : s[k].toNat < 48
          · clear HM hd
            go_wp2_with fail
            go_ret2
            exact post_no s w 0 HX.out
          · have h57 : 57 < s[k].toNat := by omega
            clear HM hd
            go_wp2_with fail
            go_ret2
            exact post_no s w 0 HX.out
      · have hlist : s.data.toList.take k = s.data.toList := List.take_of_length_le (by simp; omega)
        have hm := HM.out
        rw [hlist] at hm
        have HM2 := Lib.hid hm
        have HC := Lib.hid (num.num_all (m : Int) w (by omega) (by omega))
        clear hlist HM hm
        by_cases he : Lib.itoa (m : Int) = s.data.toList
        · have hq : (Lib.itoa (m : Int) == s.toList) = true := by
            rw [beq_iff_eq, ByteArray.toList_eq]; exact he
          have HG := Lib.hid (show parse.Good s.data.toList (m : Int) from ⟨by omega, by omega, he⟩)
          clear he
          go_wp2_with fail
          refine HC.out.mono ?_
          rintro e w1 ⟨rfl, j, rfl⟩
          go_wp2_with fail
          go_ret2
          exact post_yes s w j m HG.out
        · have hq : (Lib.itoa (m : Int) == s.toList) = false := by
            rw [beq_eq_false_iff_ne, ByteArray.toList_eq]; exact he
          have HX := Lib.hid (no_num s HN.out m HM2.out he)
          clear he
          go_wp2_with fail
          refine HC.out.mono ?_
          rintro e w1 ⟨rfl, j, rfl⟩
          go_wp2_with fail
          go_ret2
          exact post_no s w j HX.out
  · have HX := Lib.hid (no_len s HN.out (by omega))
    clear hn
    have HI := Lib.hid (in_no s.size w (by omega))
    clear hr
    go_enter Tryd.func29, Tryd.ntmps29
    go_wp2_with fail
    refine HI.out.mono ?_
    rintro e w1 ⟨rfl, rfl⟩
    go_wp2_with fail
    go_ret2
    exact post_no s w 0 HX.out

/-- A sign ahead: t is the rest. -/
def Signed (s t : ByteArray) : Prop := s.data.toList = 45 :: t.data.toList
theorem neg_len (s t : ByteArray) (hn : Signed s t) (h : t.size < 1 ∨ 6 < t.size) (v : Int) : ¬ parse.Good s.data.toList v := by
  intro g
  rw [hn] at g
  obtain ⟨hv, e⟩ := parse.good_neg g
  have a := parse.dec_six v.natAbs (by have := g.1; omega)
  have b := parse.dec_pos v.natAbs
  have hl : t.size = (Lib.decDigits v.natAbs).length := by rw [← e]; simp
  omega
theorem neg_digit (s t : ByteArray) (hn : Signed s t) (k : Nat) (hk : k < t.size) (h : t[k].toNat < 48 ∨ 57 < t[k].toNat) (v : Int) : ¬ parse.Good s.data.toList v := by
  intro g
  rw [hn] at g
  obtain ⟨hv, e⟩ := parse.good_neg g
  have hm : t[k] ∈ t.data.toList := List.getElem_mem (l := t.data.toList) (by simpa using hk)
  rw [e] at hm
  have := parse.dec_mem v.natAbs v.natAbs (Nat.le_refl _) _ hm
  omega
theorem neg_num (s t : ByteArray) (hn : Signed s t) (m : Nat) (hm : Lib.decFrom 0 t.data.toList = some m) (h : ¬ Lib.itoa (-(m : Int)) = s.data.toList) (v : Int) : ¬ parse.Good s.data.toList v := by
  intro g
  have g' := g
  rw [hn] at g
  obtain ⟨hv, e⟩ := parse.good_neg g
  rw [e, parse.dec_digits v.natAbs v.natAbs (Nat.le_refl _)] at hm
  obtain rfl : v.natAbs = m := Option.some.inj hm
  apply h
  rw [show -((v.natAbs : Nat) : Int) = v by omega]
  exact g'.2.2
theorem signed_of (s : ByteArray) (h2 : 1 < s.size) (h0 : s[0].toNat = 45) : Signed s (s.extract 1 s.size) := by
  unfold Signed
  rw [Lib.extract_data, List.take_of_length_le (by simp)]
  have h : s[0] = 45 := UInt8.toNat.inj (by rw [h0]; rfl)
  have hl : 0 < s.data.toList.length := by simp; omega
  rw [← h]
  have e := List.drop_eq_getElem_cons hl
  rw [List.drop_zero] at e
  exact e

set_option maxHeartbeats 1000000 in
theorem read_neg (s : ByteArray) (w : World) (hs : s.size ≤ 1048576) (h2 : 1 < s.size) (h0 : s[0].toNat = 45) :
    Calls Tryd.prog 29 #[.string s] w (ReadPost s w) := by
  have hn := signed_of s h2 h0
  have hx : (s.extract 1 s.size).size = s.size - 1 := by simp
  obtain ⟨t, ht⟩ : ∃ t, s.extract 1 s.size = t := ⟨_, rfl⟩
  rw [ht] at hx hn
  have HN := Lib.hid hn
  have hz : ((s[0].toNat : Int) == 45) = true := by simp; omega
  have hl1 : t.size < s.size := by omega
  clear h0 hx
  by_cases hr : 1 ≤ t.size ∧ t.size ≤ 6
  · obtain ⟨h1, h6⟩ := hr
    clear hn
    have HI := Lib.hid (in_yes t.size w (by omega) (by omega))
    go_enter Tryd.func29, Tryd.ntmps29
    go_wp2_with fail
    refine HI.out.mono ?_
    rintro e w1 ⟨rfl, rfl⟩
    clear ht
    go_wp2_with fail
    go_loop [5, 6] (fun n i => ∃ k m : Nat, k ≤ t.size ∧ i = .int .i64 k ∧ n = .int .i64 m ∧ Hid (Lib.decFrom 0 (t.data.toList.take k) = some m)) (fun _ i => t.size - (intOf i).toNat)
    case atStart => exact ⟨0, 0, Nat.zero_le _, rfl, rfl, rfl⟩
    case round =>
      obtain ⟨k, m, hk, rfl, rfl, HM⟩ := hrel
      have hb := val_lt t k m (by omega) HM.out
      by_cases hlt : k < t.size
      · by_cases hd : 48 ≤ t[k].toNat ∧ t[k].toNat ≤ 57
        · obtain ⟨h48, h57⟩ := hd
          have HV := Lib.hid (snoc_val t k m hlt HM.out h48 h57)
          clear HM
          go_wp2_with fail
          go_round
          case rel => exact ⟨k + 1, m * 10 + (t[k].toNat - 48), by omega, by go_num, by go_num, HV⟩
          case measure => simp [intOf]; omega
        · have HX := Lib.hid (neg_digit s t HN.out k hlt (by omega))
          by_cases h48 : t[k].toNat < 48
          · clear HM hd
            go_wp2_with fail
            go_ret2
            exact post_no s w 0 HX.out
          · have h57 : 57 < t[k].toNat := by omega
            clear HM hd
            go_wp2_with fail
            go_ret2
            exact post_no s w 0 HX.out
      · have hlist : t.data.toList.take k = t.data.toList := List.take_of_length_le (by simp; omega)
        have hm := HM.out
        rw [hlist] at hm
        have HM2 := Lib.hid hm
        have HC := Lib.hid (num.num_all (-(m : Int)) w (by omega) (by omega))
        clear hlist HM hm
        by_cases he : Lib.itoa (-(m : Int)) = s.data.toList
        · have hq : (Lib.itoa (-(m : Int)) == s.toList) = true := by
            rw [beq_iff_eq, ByteArray.toList_eq]; exact he
          have HG := Lib.hid (show parse.Good s.data.toList (-(m : Int)) from ⟨by omega, by omega, he⟩)
          clear he
          go_wp2_with fail
          refine HC.out.mono ?_
          rintro e w1 ⟨rfl, j, rfl⟩
          go_wp2_with fail
          go_ret2
          exact post_yes s w j (-(m : Int)) HG.out
        · have hq : (Lib.itoa (-(m : Int)) == s.toList) = false := by
            rw [beq_eq_false_iff_ne, ByteArray.toList_eq]; exact he
          have HX := Lib.hid (neg_num s t HN.out m HM2.out he)
          clear he
          go_wp2_with fail
          refine HC.out.mono ?_
          rintro e w1 ⟨rfl, j, rfl⟩
          go_wp2_with fail
          go_ret2
          exact post_no s w j HX.out
  · have HX := Lib.hid (neg_len s t HN.out (by omega))
    clear hn
    have HI := Lib.hid (in_no t.size w (by omega))
    clear hr
    go_enter Tryd.func29, Tryd.ntmps29
    go_wp2_with fail
    refine HI.out.mono ?_
    rintro e w1 ⟨rfl, rfl⟩
    clear ht
    go_wp2_with fail
    go_ret2
    exact post_no s w 0 HX.out

/-- spec.ParseInt is spec.l1Read. -/
theorem read_any (s : ByteArray) (w : World) (hs : s.size ≤ 1048576) : Calls Tryd.prog 29 #[.string s] w (ReadPost s w) := by
  by_cases h2 : 1 < s.size
  · by_cases h0 : s[0].toNat = 45
    · exact read_neg s w hs h2 h0
    · refine read_two s w hs ?_ h2 h0
      intro r e
      exfalso; apply h0
      have hl : 0 < s.data.toList.length := by simp; omega
      have : s[0] = s.data.toList[0] := rfl
      rw [this]
      simp [e]
  · refine read_one s w hs ?_ h2
    intro r e
    have : s.data.toList.length = r.length + 1 := by rw [e]; rfl
    have hsz : s.data.toList.length = s.size := by simp
    exact List.eq_nil_of_length_eq_zero (by omega)
theorem spec_any (s : ByteArray) (w : World) (hs : s.size ≤ 1048576) : Calls Tryd.prog 14 #[.string s] w (ReadPost s w) := by
  have HR := Lib.hid (read_any s w hs)
  go_enter Tryd.func14, Tryd.ntmps14
  go_wp2_with fail
  refine HR.out.mono ?_
  rintro e w1 ⟨⟨v, rfl, hg⟩ | ⟨rfl, hg⟩, j, rfl⟩
  · have HG := Lib.hid hg
    clear hg
    go_wp2_with fail
    go_ret2
    exact post_yes s w j v HG.out
  · have HG := Lib.hid hg
    clear hg
    go_wp2_with fail
    go_ret2
    exact post_no s w j HG.out
end Go.Proofs.YthmchdohdafikaaDoor.read
