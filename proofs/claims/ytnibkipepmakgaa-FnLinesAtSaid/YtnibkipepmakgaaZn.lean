/- OpenPairs and CountCrossings: the program's. -/
import Derived.Test.YtnibkipepmakgaaZl
namespace Go.Proofs.Ytnibkipepmakgaa.parting
open Go.RowKit
open cards maps
set_option linter.unusedVariables false

theorem C2_two : ∀ n : Nat, C2 n * 2 = n * (n - 1)
  | 0 => rfl
  | n + 1 => by
    rw [C2_step, Nat.add_mul, C2_two n]
    cases n with
    | zero => rfl
    | succ m => simp [Nat.mul_add, Nat.add_mul]; omega
theorem C2_le {n N : Nat} (h : n ≤ N) : C2 n ≤ N * N := by
  have h1 := C2_two n
  have h2 : n * (n - 1) ≤ N * N := Nat.mul_le_mul h (by omega)
  omega

set_option maxRecDepth 100000 in
set_option maxHeartbeats 2000000 in
theorem pairs_of (n : Nat) (hn : n ≤ 100000) (w : World) :
    Calls Try.prog 28 #[.int .i64 n] w fun e w' => e = .returned (.int .i64 (C2 n : Nat)) ∧ Below w.heap.size w w' := by
  have h2 := C2_two n
  have h3 := C2_le hn
  obtain ⟨t, ht⟩ : ∃ t, C2 n = t := ⟨_, rfl⟩
  rw [ht] at h2 h3
  rw [ht]
  have hp : (n : Int) * ((n : Int) - 1) = (t : Int) * 2 := by
    cases n with
    | zero =>
      obtain rfl : t = 0 := by omega
      rfl
    | succ m =>
      have h4 : ((t * 2 : Nat) : Int) = (((m + 1) * (m + 1 - 1) : Nat) : Int) := by rw [h2]
      simp at h4
      rw [show (((m + 1 : Nat) : Int) - 1) = (m : Int) by omega]
      simp
      exact h4.symm
  have hd : ((t : Int) * 2).tdiv 2 = t := by rw [Int.tdiv_eq_ediv_of_nonneg (by omega)]; omega
  have hd2 : ((t : Int) * 2) / 2 = t := by omega
  have t3 : (t : Int) ≤ 10000000000 := by omega
  clear h2 ht h3
  go_enter Try.func28, Try.ntmps28
  go_wp2_with fail
  go_ret
  exact ⟨rfl, Below.refl _ _⟩

noncomputable def opnR (l : List Cd) : Int × Bool := if handB l = true then (((opA l l.length : Nat) : Int), true) else (0, false)
noncomputable def ccR (l : List Cd) : Int × Bool := if handB l = true then (((crA (allL l l.length) (allL l l.length).length : Nat) : Int), true) else (0, false)

set_option maxRecDepth 100000 in
set_option maxHeartbeats 4000000 in
theorem impl_op (l : List Cd) (p : Option Addr) (n cp : Nat) (w : World) (hn : l.length = n) (hl : n ≤ 1000000000) (hr : Rd w p (flat l)) (hcp : n ≤ cp) :
    Calls Try.prog 10 #[.slice p n cp] w fun e w' => e = .returned (.tuple #[.int .i64 (opnR l).1, .bool (opnR l).2]) ∧ Below w.heap.size w w' := by
  have HN := Lib.hid hn
  have HR := Lib.hid hr
  clear hn hr hcp
  go_enter Try.func10, Try.ntmps10
  go_wp2_with fail
  refine (impl_lin l p n cp _ HN.out hl (by repeat (first | with_reducible exact HR.out | with_reducible apply Rd.drewN | with_reducible apply Rd.drew | with_reducible apply Rd.alloc))).mono ?_
  rintro e w1 ⟨u1, rfl, hu, b⟩
  have HU := Lib.hid hu
  have Sw1 := Lib.hid b.size
  have HB := Lib.hid (chain0 (w := w) (by repeat (first | with_reducible exact Below.refl _ _ | with_reducible exact HB.out | with_reducible apply Below.drew | with_reducible apply bdN | with_reducible refine Below.alloc ?_ (by first | exact Nat.le_refl _ | with_reducible exact HB.out.size | omega | (simp; done) | (simp; omega) | (have := HB.out.size; simp at *; omega)) _ | with_reducible refine Below.setCell ?_ (by first | exact Nat.le_refl _ | with_reducible exact HB.out.size | omega | (simp; done) | (simp; omega) | (have := HB.out.size; simp at *; omega)) _)) b)
  have HR := Lib.hid (Rd.below (by repeat (first | with_reducible exact HR.out | with_reducible apply Rd.drewN | with_reducible apply Rd.drew | with_reducible apply Rd.alloc)) b)
  clear b
  clear hu
  cases hh : handB l
  · have HT := Lib.hid (show opnR l = (0, false) by unfold opnR; rw [if_neg (by simp [hh])])
    have hl2 : (linR l).2 = false := by unfold linR; rw [if_neg (by simp [hh])]
    rw [hl2]
    clear hl2 hh
    go_wp2_with fail
    go_ret2
    exact ⟨ret_ib (by rw [HT.out]), HB.out⟩
  · have HT := Lib.hid (show opnR l = (((opA l n : Nat) : Int), true) by unfold opnR; rw [if_pos hh, HN.out])
    have hlr : linR l = (allL l n, true) := by unfold linR; rw [if_pos hh, HN.out]
    have HH := handB_true.1 hh
    have hlen := lines_len HH
    have h27 : n ≤ 27 := by have := HH.1; have := HN.out; omega
    have hop := open_lines HN.out HH.2.2 HH.2.1
    have hc2 := C2_two n
    have hc3 := C2_le h27
    rw [HN.out] at hlen
    rw [hlr] at HU ⊢
    obtain ⟨A, hA⟩ : ∃ A, allL l n = A := ⟨_, rfl⟩
    rw [hA] at HU hlen hop
    obtain ⟨m, hm⟩ : ∃ m, A.length = m := ⟨_, rfl⟩
    rw [hm] at hlen hop
    have HM := Lib.hid hm
    have HP1 := Lib.hid (fun w => pairs_of n (by omega) w)
    have HP2 := Lib.hid (fun w => pairs_of 3 (by omega) w)
    obtain ⟨t, ht⟩ : ∃ t, C2 n = t := ⟨_, rfl⟩
    rw [ht] at hc2 hc3 HP1
    obtain ⟨z, hz⟩ : ∃ z, opA l n = z := ⟨_, rfl⟩
    rw [hz] at hop HT
    have hzt : (z : Int) = (t : Int) - (m : Int) * 3 := by omega
    have HZ := Lib.hid hzt
    have t1 : t ≤ 729 := hc3
    have m1 : m ≤ 729 := hlen
    clear hlr hh hA hm HH hop hc2 hc3 ht hz hzt hlen
    obtain ⟨pa, ca, rfl, _, ra, _⟩ := HU.out.form
    rw [HM.out]
    clear ra
    go_wp2_with fail
    refine ((HP1.out _)).mono ?_
    rintro e w2 ⟨rfl, b⟩
    have Sw2 := Lib.hid b.size
    have HB := Lib.hid (chain0 (w := w) (by repeat (first | with_reducible exact Below.refl _ _ | with_reducible exact HB.out | with_reducible apply Below.drew | with_reducible apply bdN | with_reducible refine Below.alloc ?_ (by first | exact Nat.le_refl _ | with_reducible exact HB.out.size | omega | (simp; done) | (simp; omega) | (have := HB.out.size; simp at *; omega)) _ | with_reducible refine Below.setCell ?_ (by first | exact Nat.le_refl _ | with_reducible exact HB.out.size | omega | (simp; done) | (simp; omega) | (have := HB.out.size; simp at *; omega)) _)) b)
    have HR := Lib.hid (Rd.below (by repeat (first | with_reducible exact HR.out | with_reducible apply Rd.drewN | with_reducible apply Rd.drew | with_reducible apply Rd.alloc)) b)
    clear b
    go_wp2_with fail
    refine ((HP2.out _)).mono ?_
    rintro e w3 ⟨rfl, b⟩
    have Sw3 := Lib.hid b.size
    have HB := Lib.hid (chain0 (w := w) (by repeat (first | with_reducible exact Below.refl _ _ | with_reducible exact HB.out | with_reducible apply Below.drew | with_reducible apply bdN | with_reducible refine Below.alloc ?_ (by first | exact Nat.le_refl _ | with_reducible exact HB.out.size | omega | (simp; done) | (simp; omega) | (have := HB.out.size; simp at *; omega)) _ | with_reducible refine Below.setCell ?_ (by first | exact Nat.le_refl _ | with_reducible exact HB.out.size | omega | (simp; done) | (simp; omega) | (have := HB.out.size; simp at *; omega)) _)) b)
    have HR := Lib.hid (Rd.below (by repeat (first | with_reducible exact HR.out | with_reducible apply Rd.drewN | with_reducible apply Rd.drew | with_reducible apply Rd.alloc)) b)
    clear b
    go_wp2_with fail
    go_ret2
    exact ⟨ret_ib (by rw [HT.out, HZ.out]; simp [C2]; unfold wrap64; omega), HB.out⟩

theorem sm_le (f : Nat → Nat) (N : Nat) (h : ∀ p, f p ≤ N) : ∀ n, sm n f ≤ n * N
  | 0 => by simp [sm]
  | n + 1 => by
    have := sm_le f N h n
    have := h n
    simp only [sm, Nat.add_mul, Nat.one_mul]; omega

set_option maxRecDepth 100000 in
set_option maxHeartbeats 4000000 in
theorem impl_cc (l : List Cd) (p : Option Addr) (n cp : Nat) (w : World) (hn : l.length = n) (hl : n ≤ 1000000000) (hr : Rd w p (flat l)) (hcp : n ≤ cp) :
    Calls Try.prog 12 #[.slice p n cp] w fun e w' => e = .returned (.tuple #[.int .i64 (ccR l).1, .bool (ccR l).2]) ∧ Below w.heap.size w w' := by
  have HN := Lib.hid hn
  have HR := Lib.hid hr
  clear hn hr hcp
  go_enter Try.func12, Try.ntmps12
  go_wp2_with fail
  refine (impl_lc l p n cp _ HN.out hl (by repeat (first | with_reducible exact HR.out | with_reducible apply Rd.drewN | with_reducible apply Rd.drew | with_reducible apply Rd.alloc))).mono ?_
  rintro e w1 ⟨u1, rfl, hu, b⟩
  have HU := Lib.hid hu
  have Sw1 := Lib.hid b.size
  have HB := Lib.hid (chain0 (w := w) (by repeat (first | with_reducible exact Below.refl _ _ | with_reducible exact HB.out | with_reducible apply Below.drew | with_reducible apply bdN | with_reducible refine Below.alloc ?_ (by first | exact Nat.le_refl _ | with_reducible exact HB.out.size | omega | (simp; done) | (simp; omega) | (have := HB.out.size; simp at *; omega)) _ | with_reducible refine Below.setCell ?_ (by first | exact Nat.le_refl _ | with_reducible exact HB.out.size | omega | (simp; done) | (simp; omega) | (have := HB.out.size; simp at *; omega)) _)) b)
  have HR := Lib.hid (Rd.below (by repeat (first | with_reducible exact HR.out | with_reducible apply Rd.drewN | with_reducible apply Rd.drew | with_reducible apply Rd.alloc)) b)
  clear b
  clear hu
  cases hh : handB l
  · have HT := Lib.hid (show ccR l = (0, false) by unfold ccR; rw [if_neg (by simp [hh])])
    have hl2 : (lcR l).2 = false := by unfold lcR; rw [if_neg (by simp [hh])]
    rw [hl2]
    clear hl2 hh
    go_wp2_with fail
    go_ret2
    exact ⟨ret_ib (by rw [HT.out]), HB.out⟩
  · have HT := Lib.hid (show ccR l = (((crA (allL l n) (allL l n).length : Nat) : Int), true) by unfold ccR; rw [if_pos hh, HN.out])
    have hlr : lcR l = (cnts (allL l n) n, true) := by unfold lcR; rw [if_pos hh, HN.out]
    have HH := handB_true.1 hh
    have hlen := lines_len HH
    have h27 : n ≤ 27 := by have := HH.1; have := HN.out; omega
    have hcs := cross_sum HN.out HH.2.2 HH.2.1 _ (Nat.le_refl _)
    rw [List.take_length] at hcs
    rw [HN.out] at hlen
    rw [hlr] at HU ⊢
    obtain ⟨A, hA⟩ : ∃ A, allL l n = A := ⟨_, rfl⟩
    rw [hA] at HU hlen hcs HT
    rw [← hcs] at HT
    have HBd := Lib.hid (fun p : Nat => show C2 (cnt A (p : Int)) ≤ 531441 from C2_le (N := 729) (by have := cnt_le A (p : Int); omega))
    have HCl := Lib.hid (fun p : Nat => show cnt A (p : Int) ≤ 729 from (by have := cnt_le A (p : Int); omega))
    clear hlr hh hA HH hcs hlen
    obtain ⟨pa, ca, rfl, _, ra, _⟩ := HU.out.form
    rw [cnts_len] at HU ⊢
    have HA := Lib.hid ra
    clear ra
    go_wp2_with fail
    go_loopw [6, 8, 18] (fun v _ i wr => ∃ k : Nat, k ≤ n ∧ i = .int .i64 k ∧ v = .int .i64 (sm k (fun p : Nat => C2 (cnt A (p : Int))) : Nat) ∧ Hid (Below w.heap.size w wr) ∧ Hid (Rd wr pa (ints (cnts A n)))) (fun _ _ i _ => n - (intOf i).toNat)
    case atStart => exact ⟨0, Nat.zero_le _, rfl, rfl, HB, HA⟩
    case round =>
      clear HB HA
      obtain ⟨k, hk, rfl, rfl, HB, HA⟩ := hrel
      by_cases hlt : k < n
      · obtain ⟨b, o, x, rfl, hb, hx, c0⟩ := HA.out.int (k := k) (by rw [cnts_len]; exact hlt)
        rw [cnts_at A hlt] at hx
        injection hx with hx
        subst hx
        have hsb := sm_le (fun p : Nat => C2 (cnt A (p : Int))) 531441 HBd.out k
        have hsk : k * 531441 ≤ 14348907 := Nat.mul_le_mul_right 531441 (show k ≤ 27 by omega)
        have HE : Hid (sm (k + 1) (fun p : Nat => C2 (cnt A (p : Int))) = sm k (fun p : Nat => C2 (cnt A (p : Int))) + C2 (cnt A (k : Int))) := Lib.hid rfl
        have hz1 := HCl.out k
        have HP := fun w => pairs_of (cnt A (k : Int)) (by omega) w
        have hcb := HBd.out k
        obtain ⟨s, hs⟩ : ∃ s, sm k (fun p : Nat => C2 (cnt A (p : Int))) = s := ⟨_, rfl⟩
        obtain ⟨z, hz⟩ : ∃ z, cnt A (k : Int) = z := ⟨_, rfl⟩
        rw [hz] at c0 HE HP hcb hz1
        obtain ⟨t, ht⟩ : ∃ t, C2 z = t := ⟨_, rfl⟩
        rw [ht] at HE HP hcb
        rw [hs] at HE hsb
        rw [hs]
        replace HP := Lib.hid HP
        have s1 : s ≤ 14348907 := by omega
        have m0 : (0 : Int) ≤ (k : Int) := by omega
        have m1 : (k : Int) < (n : Int) := by omega
        have s2 : (s : Int) ≤ 14348907 := by omega
        have t2 : (t : Int) ≤ 531441 := by omega
        clear hsb hsk hs hz ht s1
        go_wp2_with fail
        refine ((HP.out _)).mono ?_
        rintro e w2 ⟨rfl, b⟩
        have Sw2 := Lib.hid b.size
        have HB := Lib.hid (chain0 (w := w) (by repeat (first | with_reducible exact Below.refl _ _ | with_reducible exact HB.out | with_reducible apply Below.drew | with_reducible apply bdN | with_reducible refine Below.alloc ?_ (by first | exact Nat.le_refl _ | with_reducible exact HB.out.size | omega | (simp; done) | (simp; omega) | (have := HB.out.size; simp at *; omega)) _ | with_reducible refine Below.setCell ?_ (by first | exact Nat.le_refl _ | with_reducible exact HB.out.size | omega | (simp; done) | (simp; omega) | (have := HB.out.size; simp at *; omega)) _)) b)
        have HA := Lib.hid (Rd.below (by repeat (first | with_reducible exact HA.out | with_reducible apply Rd.drewN | with_reducible apply Rd.drew | with_reducible apply Rd.alloc)) b)
        clear b
        clear c0
        go_wp2_with fail
        go_roundw
        case rel => exact ⟨k + 1, by omega, by go_num, by rw [HE.out]; go_num, HB, HA⟩
        case measure => simp [intOf]; omega
      · obtain rfl : k = n := by omega
        go_wp2_with fail
        go_ret2
        exact ⟨ret_ib (by rw [HT.out]), HB.out⟩
end Go.Proofs.Ytnibkipepmakgaa.parting
