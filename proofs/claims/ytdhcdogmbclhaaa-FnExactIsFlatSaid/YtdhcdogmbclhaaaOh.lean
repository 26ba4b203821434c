/- SpanOf, DimensionOf and IsFlat, the program's and the model's. -/
import Derived.Test.YtdhcdogmbclhaaaOg
import Derived.Test.YtdhcdogmbclhaaaIh
namespace Go.Proofs.Ytdhcdogmbclhaaa.planes
open Go.RowKit
open cards reg
set_option linter.unusedVariables false

noncomputable def spR (l : List Cd) : List Cd × Bool := if handB l = true then (span l, true) else ([], false)
theorem spR_len (l : List Cd) : (spR l).1.length ≤ 100000000 := by
  unfold spR
  split
  · exact Nat.le_trans (span_le l) (by omega)
  · simp
/-- How often a number can be divided by 3 until nothing is left. -/
def lg (n : Nat) : Nat := if n = 0 then 0 else lg (n / 3) + 1
decreasing_by omega
theorem lg_zero : lg 0 = 0 := by unfold lg; simp
theorem lg_pos {n : Nat} (h : 0 < n) : lg n = lg (n / 3) + 1 := by rw [lg, if_neg (by omega)]
theorem lg_le : ∀ n : Nat, lg n ≤ n := by
  intro n
  induction n using Nat.strongRecOn with
  | _ n ih =>
    rcases Nat.eq_zero_or_pos n with rfl | h
    · rw [lg_zero]; exact Nat.le_refl _
    · rw [lg_pos h]; have := ih (n / 3) (by omega); omega
noncomputable def dmN (l : List Cd) : Int := (lg (span l).length : Int) - 1
noncomputable def dmR (l : List Cd) : Int × Bool := if handB l = true then (dmN l, true) else (0, false)
theorem eqB (q n : Nat) : ((q : Int) == (n : Int)) = (q == n) := by rw [Bool.eq_iff_iff]; simp only [beq_iff_eq]; omega
noncomputable def flB (l : List Cd) : Bool := decide (0 < l.length) && decide ((span l).length = l.length)
noncomputable def flR (l : List Cd) : Bool × Bool := if handB l = true then (flB l, true) else (false, false)

set_option maxRecDepth 100000 in
set_option maxHeartbeats 4000000 in
theorem impl_sp (l : List Cd) (p : Option Addr) (n cp : Nat) (w : World) (hn : l.length = n) (hl : n ≤ 1000000000) (hr : Rd w p (flat l)) (hp : n ≤ cp ∧ ∃ b o, p = some ⟨b, o, none⟩) :
    Calls Try.prog 18 #[.slice p n cp] w fun e w' => ∃ u, e = .returned (.tuple #[u, .bool (spR l).2]) ∧ Own w' w.heap.size u (spR l).1 ∧ Below w.heap.size w w' := by
  obtain ⟨hcp, b0, o0, rfl⟩ := hp
  have HR := Lib.hid hr
  have HN := Lib.hid hn
  have HI := Lib.hid (fun w hr => is_hand l (some ⟨b0, o0, none⟩) n cp w hn hl hr)
  clear hr hn
  cases hh : handB l
  · have HT := Lib.hid (show spR l = ([], false) by unfold spR; rw [if_neg (by simp [hh])])
    rw [hh] at HI
    clear hh
    go_enter Try.func18, Try.ntmps18
    go_wp2_with fail
    refine ((HI.out _ HR.out)).mono ?_
    rintro e w1 ⟨rfl, b⟩
    have Sw1 := Lib.hid b.size
    have HB := Lib.hid (chain0 (w := w) (by repeat (first | with_reducible exact Below.refl _ _ | with_reducible exact HB.out | with_reducible apply Below.drew | with_reducible apply bdN | with_reducible refine Below.alloc ?_ (by first | exact Nat.le_refl _ | with_reducible exact HB.out.size | omega | (simp; done) | (simp; omega) | (have := HB.out.size; simp at *; omega)) _ | with_reducible refine Below.setCell ?_ (by first | exact Nat.le_refl _ | with_reducible exact HB.out.size | omega | (simp; done) | (simp; omega) | (have := HB.out.size; simp at *; omega)) _)) b)
    have HR := Lib.hid (Rd.below (by repeat (first | with_reducible exact HR.out | with_reducible apply Rd.drewN | with_reducible apply Rd.drew | with_reducible apply Rd.alloc)) b)
    clear b
    go_wp2_with fail
    go_ret2
    exact ⟨_, ret_two (by rw [HT.out]), by rw [HT.out]; exact Own.empty _ _ HB.out.size, by repeat (first | with_reducible exact Below.refl _ _ | with_reducible exact HB.out | with_reducible apply Below.drew | with_reducible apply bdN | with_reducible refine Below.alloc ?_ (by first | exact Nat.le_refl _ | with_reducible exact HB.out.size | omega | (simp; done) | (simp; omega) | (have := HB.out.size; simp at *; omega)) _ | with_reducible refine Below.setCell ?_ (by first | exact Nat.le_refl _ | with_reducible exact HB.out.size | omega | (simp; done) | (simp; omega) | (have := HB.out.size; simp at *; omega)) _)⟩
  · have HT := Lib.hid (show spR l = (span l, true) by unfold spR; rw [if_pos hh])
    have HH := Lib.hid (handB_true.1 hh)
    rw [hh] at HI
    clear hh
    go_enter Try.func18, Try.ntmps18
    go_wp2_with fail
    refine ((HI.out _ HR.out)).mono ?_
    rintro e w1 ⟨rfl, b⟩
    have Sw1 := Lib.hid b.size
    have HB := Lib.hid (chain0 (w := w) (by repeat (first | with_reducible exact Below.refl _ _ | with_reducible exact HB.out | with_reducible apply Below.drew | with_reducible apply bdN | with_reducible refine Below.alloc ?_ (by first | exact Nat.le_refl _ | with_reducible exact HB.out.size | omega | (simp; done) | (simp; omega) | (have := HB.out.size; simp at *; omega)) _ | with_reducible refine Below.setCell ?_ (by first | exact Nat.le_refl _ | with_reducible exact HB.out.size | omega | (simp; done) | (simp; omega) | (have := HB.out.size; simp at *; omega)) _)) b)
    have HR := Lib.hid (Rd.below (by repeat (first | with_reducible exact HR.out | with_reducible apply Rd.drewN | with_reducible apply Rd.drew | with_reducible apply Rd.alloc)) b)
    clear b
    have HZ := Lib.hid HB.out.size
    go_wp2_with fail
    refine (span_of l b0 o0 n cp _ HN.out (by have := HH.out.1; have := HN.out; omega) HR.out HH.out.2.1 HH.out.2.2).mono ?_
    rintro e w2 ⟨u, rfl, hu, b⟩
    have HU := Lib.hid (hu.base HZ.out)
    have HB := Lib.hid (chain0 HB.out b)
    clear hu b
    go_wp2_with fail
    go_ret2
    exact ⟨_, ret_two (by rw [HT.out]), by rw [HT.out]; exact HU.out, HB.out⟩

set_option maxRecDepth 100000 in
set_option maxHeartbeats 4000000 in
theorem spec_sp (l : List Cd) (p : Option Addr) (n cp : Nat) (w : World) (hn : l.length = n) (hl : n ≤ 1000000000) (hr : Rd w p (flat l)) (hp : n ≤ cp ∧ ∃ b o, p = some ⟨b, o, none⟩) :
    Calls Try.prog 16 #[.slice p n cp] w fun e w' => ∃ u, e = .returned (.tuple #[u, .bool (spR l).2]) ∧ Own w' w.heap.size u (spR l).1 ∧ Below w.heap.size w w' := by
  obtain ⟨hcp, b0, o0, rfl⟩ := hp
  have HR := Lib.hid hr
  have HN := Lib.hid hn
  have HI := Lib.hid (fun w hr => l2_hand l (some ⟨b0, o0, none⟩) n cp w hn hl hr)
  clear hr hn
  cases hh : handB l
  · have HT := Lib.hid (show spR l = ([], false) by unfold spR; rw [if_neg (by simp [hh])])
    rw [hh] at HI
    clear hh
    go_enter Try.func16, Try.ntmps16
    go_wp2_with fail
    refine ((HI.out _ HR.out)).mono ?_
    rintro e w1 ⟨rfl, b⟩
    have Sw1 := Lib.hid b.size
    have HB := Lib.hid (chain0 (w := w) (by repeat (first | with_reducible exact Below.refl _ _ | with_reducible exact HB.out | with_reducible apply Below.drew | with_reducible apply bdN | with_reducible refine Below.alloc ?_ (by first | exact Nat.le_refl _ | with_reducible exact HB.out.size | omega | (simp; done) | (simp; omega) | (have := HB.out.size; simp at *; omega)) _ | with_reducible refine Below.setCell ?_ (by first | exact Nat.le_refl _ | with_reducible exact HB.out.size | omega | (simp; done) | (simp; omega) | (have := HB.out.size; simp at *; omega)) _)) b)
    have HR := Lib.hid (Rd.below (by repeat (first | with_reducible exact HR.out | with_reducible apply Rd.drewN | with_reducible apply Rd.drew | with_reducible apply Rd.alloc)) b)
    clear b
    go_wp2_with fail
    go_ret2
    exact ⟨_, ret_two (by rw [HT.out]), by rw [HT.out]; exact Own.empty _ _ HB.out.size, by repeat (first | with_reducible exact Below.refl _ _ | with_reducible exact HB.out | with_reducible apply Below.drew | with_reducible apply bdN | with_reducible refine Below.alloc ?_ (by first | exact Nat.le_refl _ | with_reducible exact HB.out.size | omega | (simp; done) | (simp; omega) | (have := HB.out.size; simp at *; omega)) _ | with_reducible refine Below.setCell ?_ (by first | exact Nat.le_refl _ | with_reducible exact HB.out.size | omega | (simp; done) | (simp; omega) | (have := HB.out.size; simp at *; omega)) _)⟩
  · have HT := Lib.hid (show spR l = (span l, true) by unfold spR; rw [if_pos hh])
    have HH := Lib.hid (handB_true.1 hh)
    rw [hh] at HI
    clear hh
    go_enter Try.func16, Try.ntmps16
    go_wp2_with fail
    refine ((HI.out _ HR.out)).mono ?_
    rintro e w1 ⟨rfl, b⟩
    have Sw1 := Lib.hid b.size
    have HB := Lib.hid (chain0 (w := w) (by repeat (first | with_reducible exact Below.refl _ _ | with_reducible exact HB.out | with_reducible apply Below.drew | with_reducible apply bdN | with_reducible refine Below.alloc ?_ (by first | exact Nat.le_refl _ | with_reducible exact HB.out.size | omega | (simp; done) | (simp; omega) | (have := HB.out.size; simp at *; omega)) _ | with_reducible refine Below.setCell ?_ (by first | exact Nat.le_refl _ | with_reducible exact HB.out.size | omega | (simp; done) | (simp; omega) | (have := HB.out.size; simp at *; omega)) _)) b)
    have HR := Lib.hid (Rd.below (by repeat (first | with_reducible exact HR.out | with_reducible apply Rd.drewN | with_reducible apply Rd.drew | with_reducible apply Rd.alloc)) b)
    clear b
    have HZ := Lib.hid HB.out.size
    go_wp2_with fail
    refine (l6_span l _ n cp _ HN.out (by omega) HR.out HH.out.2.1).mono ?_
    rintro e w2 ⟨u, rfl, hu, b⟩
    have HU := Lib.hid (hu.own.base HZ.out)
    have HB := Lib.hid (chain0 HB.out b)
    clear hu b
    go_wp2_with fail
    go_ret2
    exact ⟨_, ret_two (by rw [HT.out]), by rw [HT.out]; exact HU.out, HB.out⟩

set_option maxRecDepth 100000 in
set_option maxHeartbeats 4000000 in
theorem l6_dim (l : List Cd) (p : Option Addr) (n cp : Nat) (w : World) (hn : l.length = n) (hl : n ≤ 1000000000) (hr : Rd w p (flat l)) (hok : l.all Cd.ok = true) :
    Calls Try.prog 52 #[.slice p n cp] w fun e w' => e = .returned (.int .i64 (dmN l)) ∧ Below w.heap.size w w' := by
  have HN := Lib.hid hn
  have HR := Lib.hid hr
  have HK := Lib.hid hok
  have hle := span_le l
  clear hn hr hok
  go_enter Try.func52, Try.ntmps52
  go_wp2_with fail
  refine (l6_span l p n cp _ HN.out hl HR.out HK.out).mono ?_
  rintro e w2 ⟨u, rfl, hu, b⟩
  obtain ⟨g, c, rfl, hc, _⟩ := hu.form
  have HB := Lib.hid b
  obtain ⟨q, hq⟩ : ∃ q, (span l).length = q := ⟨_, rfl⟩
  have HQ := Lib.hid hq
  rw [hq] at hle ⊢
  clear hu b hc hq
  go_wp2_with fail
  go_loopw [3, 4] (fun iv dv wr => ∃ (k : Nat) (d : Int), iv = .int .i64 k ∧ dv = .int .i64 d ∧ Hid (d + 1 + (lg k : Int) = lg q) ∧ -1 ≤ d ∧ d + k ≤ 81 ∧ Hid (Below w.heap.size w wr)) (fun iv _ _ => (intOf iv).toNat)
  case atStart => exact ⟨q, -1, rfl, rfl, Lib.hid (by omega), by omega, by omega, HB⟩
  case round =>
    clear HB
    obtain ⟨k, d, rfl, rfl, HE, hd1, hd2, HB⟩ := hrel
    by_cases hk : 0 < k
    · have HL := Lib.hid (lg_pos hk)
      have hk' : (0 : Int) < (k : Int) := by omega
      have hdiv : ((k : Int) / 3) = ((k / 3 : Nat) : Int) := by omega
      have HD := Lib.hid hdiv
      clear hdiv
      go_wp2_with fail
      go_roundw
      case rel => exact ⟨k / 3, d + 1, by rw [← HD.out], by go_num, Lib.hid (by have := HE.out; have := HL.out; omega), by omega, by omega, HB⟩
      case measure => simp [intOf]; omega
    · obtain rfl : k = 0 := by omega
      have HF := Lib.hid (show d = dmN l by have h := HE.out; rw [lg_zero] at h; unfold dmN; rw [HQ.out]; omega)
      go_wp2_with fail
      go_ret
      exact ⟨ret_int HF.out, HB.out⟩

set_option maxRecDepth 100000 in
set_option maxHeartbeats 4000000 in
theorem l6_flat (l : List Cd) (p : Option Addr) (n cp : Nat) (w : World) (hn : l.length = n) (hl : n ≤ 1000000000) (hr : Rd w p (flat l)) (hok : l.all Cd.ok = true) :
    Calls Try.prog 53 #[.slice p n cp] w fun e w' => e = .returned (.bool (flB l)) ∧ Below w.heap.size w w' := by
  have HN := Lib.hid hn
  have HR := Lib.hid hr
  have HK := Lib.hid hok
  have hle := span_le l
  clear hn hr hok
  by_cases h0 : 0 < n
  · have d0 : decide (0 < n) = true := decide_eq_true h0
    have d0' : (0 : Int) < (n : Int) := by omega
    clear h0
    go_enter Try.func53, Try.ntmps53
    go_wp2_with fail
    refine (l6_span l p n cp _ HN.out hl HR.out HK.out).mono ?_
    rintro e w2 ⟨u, rfl, hu, b⟩
    obtain ⟨g, c, rfl, hc, _⟩ := hu.form
    have HB := Lib.hid b
    have HF : Hid (flB l = ((span l).length == n)) := Lib.hid (by unfold flB; rw [HN.out, d0]; rfl)
    obtain ⟨q, hq⟩ : ∃ q, (span l).length = q := ⟨_, rfl⟩
    rw [hq] at hle HF ⊢
    clear hu b hc hq
    go_wp2_with fail
    go_ret
    exact ⟨ret_bool (by rw [HF.out]; exact eqB _ _), HB.out⟩
  · obtain rfl : n = 0 := by omega
    have HF : Hid (flB l = false) := Lib.hid (by unfold flB; rw [HN.out]; rfl)
    go_enter Try.func53, Try.ntmps53
    go_wp2_with fail
    go_ret
    exact ⟨ret_bool (by rw [HF.out]), Below.refl _ _⟩

set_option maxRecDepth 100000 in
set_option maxHeartbeats 4000000 in
theorem impl_dm (l : List Cd) (p : Option Addr) (n cp : Nat) (w : World) (hn : l.length = n) (hl : n ≤ 1000000000) (hr : Rd w p (flat l)) (hp : n ≤ cp ∧ ∃ b o, p = some ⟨b, o, none⟩) :
    Calls Try.prog 23 #[.slice p n cp] w fun e w' => e = .returned (.tuple #[.int .i64 (dmR l).1, .bool (dmR l).2]) ∧ Below w.heap.size w w' := by
  obtain ⟨hcp, b0, o0, rfl⟩ := hp
  have HR := Lib.hid hr
  have HN := Lib.hid hn
  have HI := Lib.hid (fun w hr => is_hand l (some ⟨b0, o0, none⟩) n cp w hn hl hr)
  clear hr hn
  cases hh : handB l
  · have HT := Lib.hid (show dmR l = (0, false) by unfold dmR; rw [if_neg (by simp [hh])])
    rw [hh] at HI
    clear hh
    go_enter Try.func23, Try.ntmps23
    go_wp2_with fail
    refine ((HI.out _ HR.out)).mono ?_
    rintro e w1 ⟨rfl, b⟩
    have Sw1 := Lib.hid b.size
    have HB := Lib.hid (chain0 (w := w) (by repeat (first | with_reducible exact Below.refl _ _ | with_reducible exact HB.out | with_reducible apply Below.drew | with_reducible apply bdN | with_reducible refine Below.alloc ?_ (by first | exact Nat.le_refl _ | with_reducible exact HB.out.size | omega | (simp; done) | (simp; omega) | (have := HB.out.size; simp at *; omega)) _ | with_reducible refine Below.setCell ?_ (by first | exact Nat.le_refl _ | with_reducible exact HB.out.size | omega | (simp; done) | (simp; omega) | (have := HB.out.size; simp at *; omega)) _)) b)
    have HR := Lib.hid (Rd.below (by repeat (first | with_reducible exact HR.out | with_reducible apply Rd.drewN | with_reducible apply Rd.drew | with_reducible apply Rd.alloc)) b)
    clear b
    go_wp2_with fail
    go_ret2
    exact ⟨by rw [HT.out]; rfl, by repeat (first | with_reducible exact Below.refl _ _ | with_reducible exact HB.out | with_reducible apply Below.drew | with_reducible apply bdN | with_reducible refine Below.alloc ?_ (by first | exact Nat.le_refl _ | with_reducible exact HB.out.size | omega | (simp; done) | (simp; omega) | (have := HB.out.size; simp at *; omega)) _ | with_reducible refine Below.setCell ?_ (by first | exact Nat.le_refl _ | with_reducible exact HB.out.size | omega | (simp; done) | (simp; omega) | (have := HB.out.size; simp at *; omega)) _)⟩
  · have HT := Lib.hid (show dmR l = (dmN l, true) by unfold dmR; rw [if_pos hh])
    have HH := Lib.hid (handB_true.1 hh)
    rw [hh] at HI
    clear hh
    go_enter Try.func23, Try.ntmps23
    go_wp2_with fail
    refine ((HI.out _ HR.out)).mono ?_
    rintro e w1 ⟨rfl, b⟩
    have Sw1 := Lib.hid b.size
    have HB := Lib.hid (chain0 (w := w) (by repeat (first | with_reducible exact Below.refl _ _ | with_reducible exact HB.out | with_reducible apply Below.drew | with_reducible apply bdN | with_reducible refine Below.alloc ?_ (by first | exact Nat.le_refl _ | with_reducible exact HB.out.size | omega | (simp; done) | (simp; omega) | (have := HB.out.size; simp at *; omega)) _ | with_reducible refine Below.setCell ?_ (by first | exact Nat.le_refl _ | with_reducible exact HB.out.size | omega | (simp; done) | (simp; omega) | (have := HB.out.size; simp at *; omega)) _)) b)
    have HR := Lib.hid (Rd.below (by repeat (first | with_reducible exact HR.out | with_reducible apply Rd.drewN | with_reducible apply Rd.drew | with_reducible apply Rd.alloc)) b)
    clear b
    have HZ := Lib.hid HB.out.size
    have hle := span_le l
    go_wp2_with fail
    refine (span_of l b0 o0 n cp _ HN.out (by have := HH.out.1; have := HN.out; omega) HR.out HH.out.2.1 HH.out.2.2).mono ?_
    rintro e w2 ⟨u, rfl, hu, b⟩
    obtain ⟨p9, c9, rfl, _, _, _⟩ := hu.form
    have HB := Lib.hid (chain0 HB.out b)
    obtain ⟨q, hq⟩ : ∃ q, (span l).length = q := ⟨_, rfl⟩
    have HQ := Lib.hid hq
    rw [hq] at hle ⊢
    clear hu b hq
    go_wp2_with fail
    go_loopw [4, 5] (fun dv iv wr => ∃ (k : Nat) (d : Int), iv = .int .i64 k ∧ dv = .int .i64 d ∧ Hid (d + 1 + (lg k : Int) = lg q) ∧ -1 ≤ d ∧ d + k ≤ 81 ∧ Hid (Below w.heap.size w wr)) (fun _ iv _ => (intOf iv).toNat)
    case atStart => exact ⟨q, -1, rfl, rfl, Lib.hid (by omega), by omega, by omega, HB⟩
    case round =>
      clear HB
      obtain ⟨k, d, rfl, rfl, HE, hd1, hd2, HB⟩ := hrel
      by_cases hk : 0 < k
      · have HL := Lib.hid (lg_pos hk)
        have hk' : (0 : Int) < (k : Int) := by omega
        have hdiv : ((k : Int) / 3) = ((k / 3 : Nat) : Int) := by omega
        have HD := Lib.hid hdiv
        clear hdiv
        go_wp2_with fail
        go_roundw
        case rel => exact ⟨k / 3, d + 1, by rw [← HD.out], by go_num, Lib.hid (by have := HE.out; have := HL.out; omega), by omega, by omega, HB⟩
        case measure => simp [intOf]; omega
      · obtain rfl : k = 0 := by omega
        have HF := Lib.hid (show d = dmN l by have h := HE.out; rw [lg_zero] at h; unfold dmN; rw [HQ.out]; omega)
        go_wp2_with fail
        go_ret2
        exact ⟨by rw [HT.out, ← HF.out]; rfl, HB.out⟩

set_option maxRecDepth 100000 in
set_option maxHeartbeats 4000000 in
theorem impl_fl (l : List Cd) (p : Option Addr) (n cp : Nat) (w : World) (hn : l.length = n) (hl : n ≤ 1000000000) (hr : Rd w p (flat l)) (hp : n ≤ cp ∧ ∃ b o, p = some ⟨b, o, none⟩) :
    Calls Try.prog 25 #[.slice p n cp] w fun e w' => e = .returned (.tuple #[.bool (flR l).1, .bool (flR l).2]) ∧ Below w.heap.size w w' := by
  obtain ⟨hcp, b0, o0, rfl⟩ := hp
  have HR := Lib.hid hr
  have HN := Lib.hid hn
  have HI := Lib.hid (fun w hr => is_hand l (some ⟨b0, o0, none⟩) n cp w hn hl hr)
  clear hr hn
  cases hh : handB l
  · have HT := Lib.hid (show flR l = (false, false) by unfold flR; rw [if_neg (by simp [hh])])
    rw [hh] at HI
    clear hh
    go_enter Try.func25, Try.ntmps25
    go_wp2_with fail
    refine ((HI.out _ HR.out)).mono ?_
    rintro e w1 ⟨rfl, b⟩
    have Sw1 := Lib.hid b.size
    have HB := Lib.hid (chain0 (w := w) (by repeat (first | with_reducible exact Below.refl _ _ | with_reducible exact HB.out | with_reducible apply Below.drew | with_reducible apply bdN | with_reducible refine Below.alloc ?_ (by first | exact Nat.le_refl _ | with_reducible exact HB.out.size | omega | (simp; done) | (simp; omega) | (have := HB.out.size; simp at *; omega)) _ | with_reducible refine Below.setCell ?_ (by first | exact Nat.le_refl _ | with_reducible exact HB.out.size | omega | (simp; done) | (simp; omega) | (have := HB.out.size; simp at *; omega)) _)) b)
    have HR := Lib.hid (Rd.below (by repeat (first | with_reducible exact HR.out | with_reducible apply Rd.drewN | with_reducible apply Rd.drew | with_reducible apply Rd.alloc)) b)
    clear b
    go_wp2_with fail
    go_ret2
    exact ⟨by rw [HT.out]; rfl, by repeat (first | with_reducible exact Below.refl _ _ | with_reducible exact HB.out | with_reducible apply Below.drew | with_reducible apply bdN | with_reducible refine Below.alloc ?_ (by first | exact Nat.le_refl _ | with_reducible exact HB.out.size | omega | (simp; done) | (simp; omega) | (have := HB.out.size; simp at *; omega)) _ | with_reducible refine Below.setCell ?_ (by first | exact Nat.le_refl _ | with_reducible exact HB.out.size | omega | (simp; done) | (simp; omega) | (have := HB.out.size; simp at *; omega)) _)⟩
  · have HT := Lib.hid (show flR l = (flB l, true) by unfold flR; rw [if_pos hh])
    have HH := Lib.hid (handB_true.1 hh)
    rw [hh] at HI
    clear hh
    by_cases h0 : 0 < n
    · have d0 : decide (0 < n) = true := decide_eq_true h0
      have d0' : (0 : Int) < (n : Int) := by omega
      clear h0
      go_enter Try.func25, Try.ntmps25
      go_wp2_with fail
      refine ((HI.out _ HR.out)).mono ?_
      rintro e w1 ⟨rfl, b⟩
      have Sw1 := Lib.hid b.size
      have HB := Lib.hid (chain0 (w := w) (by repeat (first | with_reducible exact Below.refl _ _ | with_reducible exact HB.out | with_reducible apply Below.drew | with_reducible apply bdN | with_reducible refine Below.alloc ?_ (by first | exact Nat.le_refl _ | with_reducible exact HB.out.size | omega | (simp; done) | (simp; omega) | (have := HB.out.size; simp at *; omega)) _ | with_reducible refine Below.setCell ?_ (by first | exact Nat.le_refl _ | with_reducible exact HB.out.size | omega | (simp; done) | (simp; omega) | (have := HB.out.size; simp at *; omega)) _)) b)
      have HR := Lib.hid (Rd.below (by repeat (first | with_reducible exact HR.out | with_reducible apply Rd.drewN | with_reducible apply Rd.drew | with_reducible apply Rd.alloc)) b)
      clear b
      have HZ := Lib.hid HB.out.size
      go_wp2_with fail
      refine (span_of l b0 o0 n cp _ HN.out (by have := HH.out.1; have := HN.out; omega) HR.out HH.out.2.1 HH.out.2.2).mono ?_
      rintro e w2 ⟨u, rfl, hu, b⟩
      obtain ⟨p9, c9, rfl, _, _, _⟩ := hu.form
      have HB := Lib.hid (chain0 HB.out b)
      have HF : Hid (flB l = ((span l).length == n)) := Lib.hid (by unfold flB; rw [HN.out, d0]; rfl)
      obtain ⟨q, hq⟩ : ∃ q, (span l).length = q := ⟨_, rfl⟩
      rw [hq] at HF ⊢
      clear hu b hq
      go_wp2_with fail
      go_ret2
      exact ⟨ret_bb (by rw [HT.out, HF.out]; exact congrArg (fun b => (b, true)) (eqB _ _)), HB.out⟩
    · obtain rfl : n = 0 := by omega
      have HF : Hid (flB l = false) := Lib.hid (by unfold flB; rw [HN.out]; rfl)
      go_enter Try.func25, Try.ntmps25
      go_wp2_with fail
      refine ((HI.out _ HR.out)).mono ?_
      rintro e w1 ⟨rfl, b⟩
      have Sw1 := Lib.hid b.size
      have HB := Lib.hid (chain0 (w := w) (by repeat (first | with_reducible exact Below.refl _ _ | with_reducible exact HB.out | with_reducible apply Below.drew | with_reducible apply bdN | with_reducible refine Below.alloc ?_ (by first | exact Nat.le_refl _ | with_reducible exact HB.out.size | omega | (simp; done) | (simp; omega) | (have := HB.out.size; simp at *; omega)) _ | with_reducible refine Below.setCell ?_ (by first | exact Nat.le_refl _ | with_reducible exact HB.out.size | omega | (simp; done) | (simp; omega) | (have := HB.out.size; simp at *; omega)) _)) b)
      have HR := Lib.hid (Rd.below (by repeat (first | with_reducible exact HR.out | with_reducible apply Rd.drewN | with_reducible apply Rd.drew | with_reducible apply Rd.alloc)) b)
      clear b
      go_wp2_with fail
      go_ret2
      exact ⟨by rw [HT.out, HF.out]; rfl, by repeat (first | with_reducible exact Below.refl _ _ | with_reducible exact HB.out | with_reducible apply Below.drew | with_reducible apply bdN | with_reducible refine Below.alloc ?_ (by first | exact Nat.le_refl _ | with_reducible exact HB.out.size | omega | (simp; done) | (simp; omega) | (have := HB.out.size; simp at *; omega)) _ | with_reducible refine Below.setCell ?_ (by first | exact Nat.le_refl _ | with_reducible exact HB.out.size | omega | (simp; done) | (simp; omega) | (have := HB.out.size; simp at *; omega)) _)⟩

set_option maxRecDepth 100000 in
set_option maxHeartbeats 4000000 in
theorem spec_dm (l : List Cd) (p : Option Addr) (n cp : Nat) (w : World) (hn : l.length = n) (hl : n ≤ 1000000000) (hr : Rd w p (flat l)) (hp : n ≤ cp ∧ ∃ b o, p = some ⟨b, o, none⟩) :
    Calls Try.prog 22 #[.slice p n cp] w fun e w' => e = .returned (.tuple #[.int .i64 (dmR l).1, .bool (dmR l).2]) ∧ Below w.heap.size w w' := by
  obtain ⟨hcp, b0, o0, rfl⟩ := hp
  have HR := Lib.hid hr
  have HN := Lib.hid hn
  have HI := Lib.hid (fun w hr => l2_hand l (some ⟨b0, o0, none⟩) n cp w hn hl hr)
  clear hr hn
  cases hh : handB l
  · have HT := Lib.hid (show dmR l = (0, false) by unfold dmR; rw [if_neg (by simp [hh])])
    rw [hh] at HI
    clear hh
    go_enter Try.func22, Try.ntmps22
    go_wp2_with fail
    refine ((HI.out _ HR.out)).mono ?_
    rintro e w1 ⟨rfl, b⟩
    have Sw1 := Lib.hid b.size
    have HB := Lib.hid (chain0 (w := w) (by repeat (first | with_reducible exact Below.refl _ _ | with_reducible exact HB.out | with_reducible apply Below.drew | with_reducible apply bdN | with_reducible refine Below.alloc ?_ (by first | exact Nat.le_refl _ | with_reducible exact HB.out.size | omega | (simp; done) | (simp; omega) | (have := HB.out.size; simp at *; omega)) _ | with_reducible refine Below.setCell ?_ (by first | exact Nat.le_refl _ | with_reducible exact HB.out.size | omega | (simp; done) | (simp; omega) | (have := HB.out.size; simp at *; omega)) _)) b)
    have HR := Lib.hid (Rd.below (by repeat (first | with_reducible exact HR.out | with_reducible apply Rd.drewN | with_reducible apply Rd.drew | with_reducible apply Rd.alloc)) b)
    clear b
    go_wp2_with fail
    go_ret2
    exact ⟨by rw [HT.out]; rfl, by repeat (first | with_reducible exact Below.refl _ _ | with_reducible exact HB.out | with_reducible apply Below.drew | with_reducible apply bdN | with_reducible refine Below.alloc ?_ (by first | exact Nat.le_refl _ | with_reducible exact HB.out.size | omega | (simp; done) | (simp; omega) | (have := HB.out.size; simp at *; omega)) _ | with_reducible refine Below.setCell ?_ (by first | exact Nat.le_refl _ | with_reducible exact HB.out.size | omega | (simp; done) | (simp; omega) | (have := HB.out.size; simp at *; omega)) _)⟩
  · have HT := Lib.hid (show dmR l = (dmN l, true) by unfold dmR; rw [if_pos hh])
    have HH := Lib.hid (handB_true.1 hh)
    rw [hh] at HI
    clear hh
    go_enter Try.func22, Try.ntmps22
    go_wp2_with fail
    refine ((HI.out _ HR.out)).mono ?_
    rintro e w1 ⟨rfl, b⟩
    have Sw1 := Lib.hid b.size
    have HB := Lib.hid (chain0 (w := w) (by repeat (first | with_reducible exact Below.refl _ _ | with_reducible exact HB.out | with_reducible apply Below.drew | with_reducible apply bdN | with_reducible refine Below.alloc ?_ (by first | exact Nat.le_refl _ | with_reducible exact HB.out.size | omega | (simp; done) | (simp; omega) | (have := HB.out.size; simp at *; omega)) _ | with_reducible refine Below.setCell ?_ (by first | exact Nat.le_refl _ | with_reducible exact HB.out.size | omega | (simp; done) | (simp; omega) | (have := HB.out.size; simp at *; omega)) _)) b)
    have HR := Lib.hid (Rd.below (by repeat (first | with_reducible exact HR.out | with_reducible apply Rd.drewN | with_reducible apply Rd.drew | with_reducible apply Rd.alloc)) b)
    clear b
    go_wp2_with fail
    refine ((l6_dim l _ n cp _ HN.out hl HR.out HH.out.2.1)).mono ?_
    rintro e w2 ⟨rfl, b⟩
    have Sw2 := Lib.hid b.size
    have HB := Lib.hid (chain0 (w := w) (by repeat (first | with_reducible exact Below.refl _ _ | with_reducible exact HB.out | with_reducible apply Below.drew | with_reducible apply bdN | with_reducible refine Below.alloc ?_ (by first | exact Nat.le_refl _ | with_reducible exact HB.out.size | omega | (simp; done) | (simp; omega) | (have := HB.out.size; simp at *; omega)) _ | with_reducible refine Below.setCell ?_ (by first | exact Nat.le_refl _ | with_reducible exact HB.out.size | omega | (simp; done) | (simp; omega) | (have := HB.out.size; simp at *; omega)) _)) b)
    have HR := Lib.hid (Rd.below (by repeat (first | with_reducible exact HR.out | with_reducible apply Rd.drewN | with_reducible apply Rd.drew | with_reducible apply Rd.alloc)) b)
    clear b
    go_wp2_with fail
    go_ret2
    exact ⟨by rw [HT.out]; rfl, by repeat (first | with_reducible exact Below.refl _ _ | with_reducible exact HB.out | with_reducible apply Below.drew | with_reducible apply bdN | with_reducible refine Below.alloc ?_ (by first | exact Nat.le_refl _ | with_reducible exact HB.out.size | omega | (simp; done) | (simp; omega) | (have := HB.out.size; simp at *; omega)) _ | with_reducible refine Below.setCell ?_ (by first | exact Nat.le_refl _ | with_reducible exact HB.out.size | omega | (simp; done) | (simp; omega) | (have := HB.out.size; simp at *; omega)) _)⟩

set_option maxRecDepth 100000 in
set_option maxHeartbeats 4000000 in
theorem spec_fl (l : List Cd) (p : Option Addr) (n cp : Nat) (w : World) (hn : l.length = n) (hl : n ≤ 1000000000) (hr : Rd w p (flat l)) (hp : n ≤ cp ∧ ∃ b o, p = some ⟨b, o, none⟩) :
    Calls Try.prog 24 #[.slice p n cp] w fun e w' => e = .returned (.tuple #[.bool (flR l).1, .bool (flR l).2]) ∧ Below w.heap.size w w' := by
  obtain ⟨hcp, b0, o0, rfl⟩ := hp
  have HR := Lib.hid hr
  have HN := Lib.hid hn
  have HI := Lib.hid (fun w hr => l2_hand l (some ⟨b0, o0, none⟩) n cp w hn hl hr)
  clear hr hn
  cases hh : handB l
  · have HT := Lib.hid (show flR l = (false, false) by unfold flR; rw [if_neg (by simp [hh])])
    rw [hh] at HI
    clear hh
    go_enter Try.func24, Try.ntmps24
    go_wp2_with fail
    refine ((HI.out _ HR.out)).mono ?_
    rintro e w1 ⟨rfl, b⟩
    have Sw1 := Lib.hid b.size
    have HB := Lib.hid (chain0 (w := w) (by repeat (first | with_reducible exact Below.refl _ _ | with_reducible exact HB.out | with_reducible apply Below.drew | with_reducible apply bdN | with_reducible refine Below.alloc ?_ (by first | exact Nat.le_refl _ | with_reducible exact HB.out.size | omega | (simp; done) | (simp; omega) | (have := HB.out.size; simp at *; omega)) _ | with_reducible refine Below.setCell ?_ (by first | exact Nat.le_refl _ | with_reducible exact HB.out.size | omega | (simp; done) | (simp; omega) | (have := HB.out.size; simp at *; omega)) _)) b)
    have HR := Lib.hid (Rd.below (by repeat (first | with_reducible exact HR.out | with_reducible apply Rd.drewN | with_reducible apply Rd.drew | with_reducible apply Rd.alloc)) b)
    clear b
    go_wp2_with fail
    go_ret2
    exact ⟨by rw [HT.out]; rfl, by repeat (first | with_reducible exact Below.refl _ _ | with_reducible exact HB.out | with_reducible apply Below.drew | with_reducible apply bdN | with_reducible refine Below.alloc ?_ (by first | exact Nat.le_refl _ | with_reducible exact HB.out.size | omega | (simp; done) | (simp; omega) | (have := HB.out.size; simp at *; omega)) _ | with_reducible refine Below.setCell ?_ (by first | exact Nat.le_refl _ | with_reducible exact HB.out.size | omega | (simp; done) | (simp; omega) | (have := HB.out.size; simp at *; omega)) _)⟩
  · have HT := Lib.hid (show flR l = (flB l, true) by unfold flR; rw [if_pos hh])
    have HH := Lib.hid (handB_true.1 hh)
    rw [hh] at HI
    clear hh
    go_enter Try.func24, Try.ntmps24
    go_wp2_with fail
    refine ((HI.out _ HR.out)).mono ?_
    rintro e w1 ⟨rfl, b⟩
    have Sw1 := Lib.hid b.size
    have HB := Lib.hid (chain0 (w := w) (by repeat (first | with_reducible exact Below.refl _ _ | with_reducible exact HB.out | with_reducible apply Below.drew | with_reducible apply bdN | with_reducible refine Below.alloc ?_ (by first | exact Nat.le_refl _ | with_reducible exact HB.out.size | omega | (simp; done) | (simp; omega) | (have := HB.out.size; simp at *; omega)) _ | with_reducible refine Below.setCell ?_ (by first | exact Nat.le_refl _ | with_reducible exact HB.out.size | omega | (simp; done) | (simp; omega) | (have := HB.out.size; simp at *; omega)) _)) b)
    have HR := Lib.hid (Rd.below (by repeat (first | with_reducible exact HR.out | with_reducible apply Rd.drewN | with_reducible apply Rd.drew | with_reducible apply Rd.alloc)) b)
    clear b
    go_wp2_with fail
    refine ((l6_flat l _ n cp _ HN.out hl HR.out HH.out.2.1)).mono ?_
    rintro e w2 ⟨rfl, b⟩
    have Sw2 := Lib.hid b.size
    have HB := Lib.hid (chain0 (w := w) (by repeat (first | with_reducible exact Below.refl _ _ | with_reducible exact HB.out | with_reducible apply Below.drew | with_reducible apply bdN | with_reducible refine Below.alloc ?_ (by first | exact Nat.le_refl _ | with_reducible exact HB.out.size | omega | (simp; done) | (simp; omega) | (have := HB.out.size; simp at *; omega)) _ | with_reducible refine Below.setCell ?_ (by first | exact Nat.le_refl _ | with_reducible exact HB.out.size | omega | (simp; done) | (simp; omega) | (have := HB.out.size; simp at *; omega)) _)) b)
    have HR := Lib.hid (Rd.below (by repeat (first | with_reducible exact HR.out | with_reducible apply Rd.drewN | with_reducible apply Rd.drew | with_reducible apply Rd.alloc)) b)
    clear b
    go_wp2_with fail
    go_ret2
    exact ⟨by rw [HT.out]; rfl, by repeat (first | with_reducible exact Below.refl _ _ | with_reducible exact HB.out | with_reducible apply Below.drew | with_reducible apply bdN | with_reducible refine Below.alloc ?_ (by first | exact Nat.le_refl _ | with_reducible exact HB.out.size | omega | (simp; done) | (simp; omega) | (have := HB.out.size; simp at *; omega)) _ | with_reducible refine Below.setCell ?_ (by first | exact Nat.le_refl _ | with_reducible exact HB.out.size | omega | (simp; done) | (simp; omega) | (have := HB.out.size; simp at *; omega)) _)⟩
end Go.Proofs.Ytdhcdogmbclhaaa.planes
