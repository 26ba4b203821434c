/- The laws' own functions on slices of texts: what they compare, mark and look for again. -/
import Derived.Test.YthmchdohdafikaaRows
import Derived.WalkKit
import Derived.ProofKit
import Derived.OwnWalk
import Derived.Below
import Derived.Outline
import Derived.LoopTactic
import Derived.BigQuiet
import Derived.Deep.QuietTactic
import Derived.Lib.QuietBelow
import Derived.Lib.Hide
import Derived.Lib.ItoaNum
import Derived.Lib.ItoaMem
import Derived.Lib.ItoaLen
import Derived.Lib.SmallJoins
import Derived.Laws.OwnMore
import Derived.Laws.BytesArg
import Derived.Deep.AppendLies
namespace Go.Proofs.Ythmchdohdafikaa.ms
open Go.RowKit
set_option linter.unusedVariables false

/-- The digits taken off a number, the last one first. -/
def Off (k q : Nat) (l : List UInt8) : Prop := if q = 0 then l = Lib.decDigits k else Lib.decDigits k = Lib.decDigits q ++ l
theorem off_step {k q : Nat} {l : List UInt8} (hq : 0 < q) (h : Off k q l) : Off k (q / 10) (UInt8.ofNat (48 + q % 10) :: l) := by
  unfold Off at *
  rw [if_neg (by omega)] at h
  by_cases hs : q < 10
  · rw [if_pos (by omega), h, Lib.decDigits_one hs, Nat.mod_eq_of_lt hs]; rfl
  · rw [if_neg (by omega), h, Lib.decDigits, dif_neg hs]; simp
/-- The text m and a number. -/
def mt (k : Nat) : ByteArray := ⟨(109 :: Lib.decDigits k).toArray⟩
theorem dec_len (u : Nat) (h : u ≤ 1000000000) : (Lib.decDigits u).length ≤ 21 := by
  have := Lib.itoa_length_le (u : Int) (by omega) (by omega)
  rwa [Lib.itoa_nonneg] at this

theorem off_len {k q : Nat} {l : List UInt8} (hk : k ≤ 1000000000) (hq : 0 < q) (h : Off k q l) : l.length ≤ 20 := by
  unfold Off at h
  rw [if_neg (by omega)] at h
  have h1 := dec_len k hk
  rw [h, List.length_append] at h1
  have h2 : 1 ≤ (Lib.decDigits q).length := by
    rw [Lib.decDigits]; split <;> simp
  omega
theorem str_cons (x : UInt8) (l : List UInt8) : (⟨#[x]⟩ ++ ⟨l.toArray⟩ : ByteArray) = ⟨(x :: l).toArray⟩ := by
  apply ByteArray.ext; simp
theorem conv_one (c : Int) (h0 : 0 ≤ c) (h1 : c ≤ 255) (w : World) :
    (convert 22 9 (.slice (some ⟨w.heap.size, 0, none⟩) 1 1)).run Try.prog (w.alloc (.cells #[.int .u8 c] 5)) = .ok (.string ⟨#[UInt8.ofNat c.toNat]⟩) (w.alloc (.cells #[.int .u8 c] 5)) := by
  have h := run_convert_bytes_arg (P := Try.prog) (w := w.alloc (.cells #[.int .u8 c] 5)) 22 5 Try.underlying22 Try.underlying5 w.heap.size 0 1 1 [c] rfl (fun i hi => by
    obtain rfl : i = 0 := by omega
    rw [World.cell?_alloc_at _ _ _ _ rfl]; rfl) 9 Try.underlying9
  rw [h]
  have : strOfNums [c] = ⟨#[UInt8.ofNat c.toNat]⟩ := by
    simp [strOfNums]
  rw [this]
set_option maxHeartbeats 1000000 in
theorem mark_text (k : Nat) (w : World) (h1 : 1 ≤ k) (h2 : k ≤ 1000000000) :
    Calls Try.prog 35 #[.int .i64 k] w fun e w' => e = .returned (.string (mt k)) ∧ Below w.heap.size w w' := by
  go_enter Try.func35, Try.ntmps35
  go_wp2_with fail
  go_loopw [0, 3] (fun n o wr => ∃ (q : Nat) (l : List UInt8), q ≤ k ∧ n = .int .i64 q ∧ o = .string ⟨l.toArray⟩ ∧ Hid (Off k q l) ∧ l.length ≤ 21 ∧ Below w.heap.size w wr) (fun n _ _ => (intOf n).toNat)
  case atStart => exact ⟨k, [], Nat.le_refl _, rfl, rfl, by show Off k k []; unfold Off; rw [if_neg (by omega)]; simp, by simp, Below.refl _ _⟩
  case round =>
    obtain ⟨q, l, hq, rfl, rfl, HO, hl, hb⟩ := hrel
    by_cases h0 : 0 < q
    · have HN := Lib.hid (off_step h0 HO.out)
      have hl2 := off_len h2 h0 HO.out
      have hcv := conv_one (48 + (q : Int) % 10) (by omega) (by omega) wr
      rw [show (48 + (q : Int) % 10).toNat = 48 + q % 10 by omega] at hcv
      clear HO hl
      go_wp2_with fail
      go_roundw
      case rel => exact ⟨q / 10, UInt8.ofNat (48 + q % 10) :: l, by omega, by go_num, by first | exact congrArg Value.string (str_cons _ _) | (simp [str_cons]), HN, by simp; omega, hb.alloc hb.size _⟩
      case measure => simp [intOf]; omega
    · obtain rfl : q = 0 := by omega
      have hO := HO.out
      unfold Off at hO
      rw [if_pos rfl] at hO
      have HE : Hid (Ending.returned (.string (⟨#[109]⟩ ++ ⟨l.toArray⟩)) = Ending.returned (.string (mt k))) := by
        show _ = _
        rw [hO]; rfl
      clear HO hO
      go_wp2_with fail
      go_ret
      exact ⟨HE.out, hb⟩

/-- What an owned slice of texts looks like. -/
theorem shape {w : World} {B : Nat} {v : Value} {xs : List ByteArray} (h : w.ownsRow B 9 1 v xs.length (xs.map Value.string)) :
    ∃ p c, v = .slice p xs.length c ∧ (0 < xs.length → ∃ g, p = some ⟨g, 0, none⟩ ∧ B ≤ g ∧ g < w.heap.size ∧ (∀ k x, xs[k]? = some x → w.cell? ⟨g, k, none⟩ = some (.string x)) ∧ ∀ k, w.frozen? ⟨g, k, none⟩ = false) := by
  have h' := h
  obtain ⟨_, ⟨rfl, h0⟩ | ⟨g, cap, cur, rfl, hB, hg, _⟩⟩ := h
  · exact ⟨none, 0, by rw [h0], fun hp => by omega⟩
  · refine ⟨_, cap, rfl, fun hp => ⟨g, rfl, hB, (Array.getElem?_eq_some_iff.1 hg).1, fun k x hx => ?_, fun k => h'.frozenAt k⟩⟩
    have hk : k < xs.length := (List.getElem?_eq_some_iff.1 hx).1
    rw [h'.cellAt k (by omega)]
    simp [hx]

set_option maxHeartbeats 1000000 in
theorem eq_any (xs : List ByteArray) (v1 v2 : Value) (B1 B2 : Nat) (w : World) (hl : xs.length ≤ 1000000000) (h1 : w.ownsRow B1 9 1 v1 xs.length (xs.map Value.string)) (h2 : w.ownsRow B2 9 1 v2 xs.length (xs.map Value.string)) :
    Calls Try.prog 18 #[v1, v2] w fun e w' => e = .returned (.bool true) ∧ ∃ j, w' = w.drewN j := by
  obtain ⟨p1, c1, rfl, s1⟩ := shape h1
  obtain ⟨p2, c2, rfl, s2⟩ := shape h2
  clear h1 h2
  obtain ⟨n, hn⟩ : ∃ n, xs.length = n := ⟨_, rfl⟩
  rw [hn] at s1 s2 hl ⊢
  have HN := Lib.hid hn
  have S1 := Lib.hid s1
  have S2 := Lib.hid s2
  clear hn s1 s2
  go_enter Try.func18, Try.ntmps18
  go_wp2_with fail
  go_loopw [5] (fun i wr => ∃ k j : Nat, k ≤ n ∧ i = .int .i64 k ∧ wr = w.drewN j) (fun i _ => n - (intOf i).toNat)
  case atStart => exact ⟨0, 0, Nat.zero_le _, rfl, rfl⟩
  case round =>
    obtain ⟨k, j, hk, rfl, rfl⟩ := hrel
    by_cases hlt : k < n
    · obtain ⟨g1, rfl, _, _, hc1, _⟩ := S1.out (by omega)
      obtain ⟨g2, rfl, _, _, hc2, _⟩ := S2.out (by omega)
      obtain ⟨x, hx⟩ : ∃ x, xs[k]? = some x := ⟨_, List.getElem?_eq_getElem (by rw [HN.out]; exact hlt)⟩
      have d1 := hc1 k x hx
      have d2 := hc2 k x hx
      have b0 : (0 : Int) ≤ (k : Int) := by omega
      have b1 : (k : Int) < (n : Int) := by omega
      clear hc1 hc2 hx S1 S2
      go_wp2_with fail
      go_quiet (fail)
      go_wp2_with fail
      go_roundw
      case rel => exact ⟨k + 1, _, by omega, by go_num, rfl⟩
      case measure => simp [intOf]; omega
    · go_wp2_with fail
      go_ret
      exact ⟨rfl, j, rfl⟩

theorem own_below {B : Nat} {e : TypeId} {k : Nat} {v : Value} {n : Nat} {xs : List Value} {w w' : World} (h : w.ownsRow B e k v n xs) (hb : Below w.heap.size w w') : w'.ownsRow B e k v n xs :=
  h.kept (row := none) ⟨hb.os, hb.tape, hb.output, hb.size, fun j hj _ => hb.block j hj⟩ (by cases hv : v.ownBlock <;> simp)
/-- The same below any number that the row lies below. -/
theorem own_below_of {B C : Nat} {e : TypeId} {k : Nat} {v : Value} {n : Nat} {xs : List Value} {w w' : World} (h : w.ownsRow B e k v n xs) (hv : ∀ g, v.ownBlock = some g → g < C) (hC : C ≤ w.heap.size) (hb : Below C w w') : w'.ownsRow B e k v n xs := by
  obtain ⟨hl, ⟨rfl, h0⟩ | ⟨g, cap, cur, rfl, hB, hg, r⟩⟩ := h
  · exact ⟨hl, .inl ⟨rfl, h0⟩⟩
  · exact ⟨hl, .inr ⟨g, cap, cur, rfl, hB, (hb.block g (hv g rfl)).trans hg, r⟩⟩

/-- Six steps, each of which keeps what lay ahead of it. -/
theorem chain6 {w w1 w2 w3 w4 w5 w6 : World} (q1 : Below w.heap.size w w1) (q2 : Below w1.heap.size w1 w2) (q3 : Below w1.heap.size w2 w3) (q4 : Below w3.heap.size w3 w4) (q5 : Below w4.heap.size w4 w5) (q6 : Below w5.heap.size w5 w6) : Below w.heap.size w w6 := by
  have s1 := q1.size
  have s2 := q2.size
  have s3 := q3.size
  have s4 := q4.size
  have s5 := q5.size
  exact ((((q1.trans (q2.mono s1)).trans (q3.mono s1)).trans (q4.mono (by omega))).trans (q5.mono (by omega))).trans (q6.mono (by omega))
def marks (k0 n : Nat) : List ByteArray := (List.range n).map fun j => mt (k0 + j)
theorem marks_succ (k0 n : Nat) : marks k0 (n + 1) = marks k0 n ++ [mt (k0 + n)] := by simp [marks, List.range_succ]
theorem marks_len (k0 n : Nat) : (marks k0 n).length = n := by simp [marks]
/-- The row when i of its elements are marked. -/
def half (k0 : Nat) (xs : List ByteArray) (i : Nat) : List Value := (marks k0 i).map Value.string ++ (xs.map Value.string).drop i
theorem half_set (k0 : Nat) (xs : List ByteArray) (i : Nat) (h : i < xs.length) : (half k0 xs i).set i (.string (mt (k0 + i))) = half k0 xs (i + 1) := by
  unfold half
  rw [marks_succ, List.map_append, List.append_assoc]
  rw [List.set_append_right _ _ (by simp [marks_len])]
  simp only [List.length_map, marks_len, Nat.sub_self]
  rw [List.drop_eq_getElem_cons (by simpa using h)]
  simp
theorem half_at (k0 : Nat) (xs : List ByteArray) (i : Nat) (h : i < xs.length) : ∃ x, (half k0 xs i)[i]? = some (.string x) := by
  refine ⟨xs[i], ?_⟩
  unfold half
  rw [List.getElem?_append_right (by simp [marks_len])]
  simp [marks_len, h]
theorem half_zero (k0 : Nat) (xs : List ByteArray) : half k0 xs 0 = xs.map Value.string := by simp [half, marks]
theorem half_all (k0 : Nat) (xs : List ByteArray) : half k0 xs xs.length = (marks k0 xs.length).map Value.string := by simp [half]

set_option maxHeartbeats 1000000 in
theorem mark_any (xs : List ByteArray) (v : Value) (B k0 : Nat) (w : World) (hl : k0 + xs.length ≤ 1000000000) (hk0 : 1 ≤ k0) (hB : B ≤ w.heap.size) (h1 : w.ownsRow B 9 1 v xs.length (xs.map Value.string)) :
    Calls Try.prog 19 #[v, .int .i64 k0] w fun e w' => e = .returned (.int .i64 (k0 + xs.length : Nat)) ∧ w'.ownsRow B 9 1 v xs.length ((marks k0 xs.length).map Value.string) ∧ Below B w w' := by
  obtain ⟨p, c, rfl, s1⟩ := shape h1
  have h0 : w.ownsRow B 9 1 (.slice p xs.length c) xs.length (half k0 xs 0) := by rw [half_zero]; exact h1
  rw [← half_all]
  clear h1
  obtain ⟨n, hn⟩ : ∃ n, xs.length = n := ⟨_, rfl⟩
  have HS := Lib.hid (half_set k0 xs)
  rw [hn] at s1 hl h0 ⊢
  have HN := Lib.hid hn
  have S1 := Lib.hid s1
  clear hn s1
  go_enter Try.func19, Try.ntmps19
  go_wp2_with fail
  go_loopw [1, 5] (fun q i wr => ∃ k : Nat, k ≤ n ∧ i = .int .i64 k ∧ q = .int .i64 (k0 + k : Nat) ∧ wr.ownsRow B 9 1 (.slice p n c) n (half k0 xs k) ∧ Below B w wr) (fun _ i _ => n - (intOf i).toNat)
  case atStart => exact ⟨0, Nat.zero_le _, rfl, rfl, h0, Below.refl _ _⟩
  case round =>
    obtain ⟨k, hk, rfl, rfl, hown, hb⟩ := hrel
    by_cases hlt : k < n
    · obtain ⟨g, rfl, hg1, hg2, _, _⟩ := S1.out (by omega)
      have HM := Lib.hid (mark_text (k0 + k) wr (by omega) (by omega))
      have b0 : (0 : Int) ≤ (k : Int) := by omega
      have b1 : (k : Int) < (n : Int) := by omega
      go_wp2_with fail
      refine HM.out.mono ?_
      rintro e w1 ⟨rfl, hb1⟩
      have hown1 := own_below hown hb1
      have hB1 : Below B w w1 := hb.trans (hb1.mono (by have := hb.size; omega))
      have hf := hown1.frozenAt k
      have hst := hown1.stored k (.string (mt (k0 + k)))
      rw [HS.out k (by rw [HN.out]; exact hlt)] at hst
      obtain ⟨x, hx⟩ := half_at k0 xs k (by rw [HN.out]; exact hlt)
      have hcl := (hown1.cellAt k (by omega)).trans hx
      have HST := Lib.hid hst
      have HB1 := Lib.hid hB1
      clear hst hB1 hown1 hown hb hb1 hx
      go_wp2_with fail
      go_roundw
      case rel => exact ⟨k + 1, by omega, by go_num, by go_num, HST.out.1, HB1.out.setCell (p := ⟨g, k, none⟩) hg1 _⟩
      case measure => simp [intOf]; omega
    · obtain rfl : k = n := by omega
      go_wp2_with fail
      go_ret
      exact ⟨rfl, hown, hb⟩

theorem marks_at (k0 n k : Nat) (h : k < n) : (marks k0 n)[k]? = some (mt (k0 + k)) := by simp [marks, h]

set_option maxHeartbeats 1000000 in
theorem held_any (n : Nat) (v : Value) (B k0 : Nat) (w : World) (hl : k0 + n ≤ 1000000000) (hk0 : 1 ≤ k0) (h1 : w.ownsRow B 9 1 v n ((marks k0 n).map Value.string)) :
    Calls Try.prog 20 #[v, .int .i64 k0] w fun e w' => e = .returned (.int .i64 (k0 + n : Nat)) ∧ Below w.heap.size w w' := by
  have h1' : w.ownsRow B 9 1 v (marks k0 n).length ((marks k0 n).map Value.string) := by rw [marks_len]; exact h1
  obtain ⟨p, c, rfl, s1⟩ := shape h1'
  rw [marks_len] at s1 ⊢
  have S1 := Lib.hid s1
  clear s1 h1 h1'
  go_enter Try.func20, Try.ntmps20
  go_wp2_with fail
  go_loopw [1, 5] (fun q i wr => ∃ k : Nat, k ≤ n ∧ i = .int .i64 k ∧ q = .int .i64 (k0 + k : Nat) ∧ Below w.heap.size w wr) (fun _ i _ => n - (intOf i).toNat)
  case atStart => exact ⟨0, Nat.zero_le _, rfl, rfl, Below.refl _ _⟩
  case round =>
    obtain ⟨k, hk, rfl, rfl, hb⟩ := hrel
    by_cases hlt : k < n
    · obtain ⟨g, rfl, hg1, hg2, hc, _⟩ := S1.out (by omega)
      have hc1 : wr.cell? ⟨g, k, none⟩ = some (.string (mt (k0 + k))) := (hb.cell (p := ⟨g, k, none⟩) hg2).trans (hc k _ (marks_at k0 n k hlt))
      have hcr := fun d os => cell_regrown hc1 d os
      have HM := Lib.hid (fun w => mark_text (k0 + k) w (by omega) (by omega))
      have b0 : (0 : Int) ≤ (k : Int) := by omega
      have b1 : (k : Int) < (n : Int) := by omega
      clear hc1 hc
      go_wp2_with fail
      refine wp_region_quiet_below (by kernel_rfl) (by kernel_rfl) ?_
      repeat (quiet_step ((go_at_call 35; exact Calls.regrown_of (HM.out _))))
      refine wpQuiet_nil ?_
      intro w2 hw2
      obtain ⟨r, rfl⟩ := hw2
      have HB := Lib.hid (hb.trans ((below_regrown wr r.d r.os).mono hb.size))
      clear hb hcr
      go_wp2_with fail
      go_roundw
      case rel => exact ⟨k + 1, by omega, by go_num, by go_num, HB.out⟩
      case measure => simp [intOf]; omega
    · obtain rfl : k = n := by omega
      go_wp2_with fail
      go_ret
      exact ⟨rfl, hb⟩
end Go.Proofs.Ythmchdohdafikaa.ms
