/- FnExactLeftCards: for every list of cards and every list of three numbers each, valid or not, the law returns true and its arguments read as before. No condition. -/
import Derived.Test.YtnmlggieabjapaaRows
import Derived.Test.YtnmlggieabjapaaFr
import Derived.Test.YtnmlggieabjapaaZw
import Derived.Test.YtnmlggieabjapaaZq
namespace Go.Proofs.Ytnmlggieabjapaa.lawLeftCards
open Go.ChangeShapes Go.WideShapes Go.ChangeAt Go.RowKit
open Go.ChangeMaps (open_string shut_string)
open cards parting
set_option linter.unusedVariables false

theorem mark_handK (l : List Cd) (v : Value) (B k0 k1 n : Nat) (w : World) (hn : l.length = n) (hk : k0 + 4 * n = k1) (hl : k1 ≤ 1000000000) (hB : B ≤ w.heap.size) (ho : Own w B v l) :
    Calls Try.prog 21 #[v, .int .i64 k0] w fun e w' => e = .returned (.int .i64 k1) ∧ Own w' B v (marked k0 n) ∧ w.grownBy w' v.ownBlock := by
  subst hk
  exact mark_hand l v B k0 n w hn hl hB ho
theorem mark_linesK (l : List A3) (v : Value) (B k0 k1 n : Nat) (w : World) (hn : l.length = n) (hk : k0 + 3 * n = k1) (hl : k1 ≤ 1000000000) (hB : B ≤ w.heap.size) (ho : OwnA3 w B v l) :
    Calls Try.prog 22 #[v, .int .i64 k0] w fun e w' => e = .returned (.int .i64 k1) ∧ OwnA3 w' B v (markedA3 k0 n) ∧ w.grownBy w' v.ownBlock := by
  subst hk
  exact mark_rowsA3 l v B k0 n w hn hl hB ho
theorem sz_yes {n : Nat} {left : Int} (h : n ≤ left) : szLeft n left = left - n := by unfold szLeft; rw [if_neg (by omega)]
theorem sz_no {n : Nat} {left : Int} (h : ¬ n ≤ left) : szLeft n left = -1 := by unfold szLeft; rw [if_pos (by omega)]

set_option maxRecDepth 100000 in
set_option maxHeartbeats 4000000 in
theorem walk (p : Option Addr) (n c : Nat) (l : List Cd) (q : Option Addr) (k d : Nat) (l2 : List A3) (w : World) (hw : l.length = n ∧ n ≤ maxLen ∧ Rd w p (flat l)) (hw2 : l2.length = k ∧ k ≤ maxLen ∧ Rd w q (A3.flat l2) ∧ ∀ x ∈ l2, wf3 x) :
    Calls Try.prog 13 #[.slice p n c, .slice q k d] w fun e w' => e = .returned (.bool true) ∧ Below w.heap.size w w' := by
  obtain ⟨hn, hm, hr⟩ := hw
  obtain ⟨hn2, hm2, hr2, hw3⟩ := hw2
  have HW3 := Lib.hid hw3
  have HN := Lib.hid hn
  have HM := Lib.hid hm
  have HR := Lib.hid hr
  have HR0 := Lib.hid hr
  have HN2 := Lib.hid hn2
  have HM2 := Lib.hid hm2
  have HQ := Lib.hid hr2
  have HQ0 := Lib.hid hr2
  clear hn hm hr hn2 hm2 hr2 hw3
  by_cases hs : n ≤ 1048576
  · have HZ1 := Lib.hid (sz_yes (n := n) (left := 1048576) (by omega))
    obtain ⟨f, hf⟩ : ∃ f : Nat, (1048576 : Int) - n = f := ⟨1048576 - n, by omega⟩
    have HF := Lib.hid hf
    have S1 := fun w => sz_hand p n c 1048576 w (by omega) (by omega) HM.out
    rw [HZ1.out, hf] at S1
    have hf1 : (f : Int) ≤ 1048576 := by omega
    have S2 := fun w => sz_lines q k d (f : Int) w (by omega) (by omega) HM2.out
    by_cases hs2 : (k : Int) ≤ f
    · rw [sz_yes hs2] at S2
      obtain ⟨f2, hf2⟩ : ∃ f2 : Nat, (f : Int) - k = f2 := ⟨f - k, by omega⟩
      rw [hf2] at S2
      have H1 := Lib.hid S1
      have H2 := Lib.hid S2
      have hk : k ≤ 1048576 := by omega
      clear S1 S2 hf hf1 hs2 hf2
      have HL : Hid ((leftR l l2).1.length ≤ 1000) := Lib.hid (leftR_len l l2)
      obtain ⟨R, hR⟩ : ∃ R, (leftR l l2).1 = R := ⟨_, rfl⟩
      obtain ⟨ok, hok⟩ : ∃ ok, (leftR l l2).2 = ok := ⟨_, rfl⟩
      have HS := Lib.hid (fun p q n c k d w a b e f g h i => spec_left l l2 p q n c k d w a b e f g h i HW3.out)
      have HI := Lib.hid (fun p q n c k d w a b e f g h i => impl_left l l2 p q n c k d w a b e f g h i HW3.out)
      rw [hR] at HL HS HI
      rw [hok] at HS HI
      clear hR hok
      obtain ⟨m, hm⟩ : ∃ m, R.length = m := ⟨_, rfl⟩
      have HMm := Lib.hid hm
      rw [hm] at HL
      clear hm
      obtain ⟨k1, hk1⟩ : ∃ k1, 1 + 4 * n = k1 := ⟨_, rfl⟩
      obtain ⟨k2, hk2⟩ : ∃ k2, k1 + 3 * k = k2 := ⟨_, rfl⟩
      have HK1 := Lib.hid hk1
      have HK2 := Lib.hid hk2
      have hk2b : (0 : Int) ≤ (k2 : Int) := by omega
      have HKb := Lib.hid (show k2 ≤ 1000000000 by omega)
      clear hk1 hk2
      go_enter Try.func13, Try.ntmps13
      go_wp2_with fail
      refine (H1.out _).mono ?_
      rintro e w' ⟨rfl, rfl⟩
      go_wp2_with fail
      refine (H2.out _).mono ?_
      rintro e w' ⟨rfl, rfl⟩
      go_wp2_with fail
      refine ((to_hand' l p n c _ HN.out (by omega) HR.out)).mono ?_
      rintro e w1 ⟨p1, c1, rfl, o1, r1, hc1, b⟩
      have Sw1 := Lib.hid b.size
      have L1 := Lib.hid o1.span
      have HB := Lib.hid (chain0 (w := w) (by repeat (first | with_reducible exact Below.refl _ _ | with_reducible exact HB.out | with_reducible apply Below.drew | with_reducible apply bdN | with_reducible refine Below.alloc ?_ (by first | exact Nat.le_refl _ | with_reducible exact HB.out.size | omega | (simp; done) | (simp; omega) | (have := HB.out.size; simp at *; omega)) _ | with_reducible refine Below.setCell ?_ (by first | exact Nat.le_refl _ | with_reducible exact HB.out.size | omega | (simp; done) | (simp; omega) | (have := HB.out.size; simp at *; omega)) _)) b)
      have Zw1 := Lib.hid HB.out.size
      have HR := Lib.hid (Rd.below (by repeat (first | with_reducible exact HR.out | with_reducible apply Rd.drewN | with_reducible apply Rd.drew | with_reducible apply Rd.alloc)) b)
      have HQ := Lib.hid (Rd.below (by repeat (first | with_reducible exact HQ.out | with_reducible apply Rd.drewN | with_reducible apply Rd.drew | with_reducible apply Rd.alloc)) b)
      have O1 := Lib.hid o1
      have R1 := Lib.hid r1
      clear b o1 r1
      go_wp2_with fail
      refine ((to_lines' l2 q k d _ HN2.out (by omega) HQ.out)).mono ?_
      rintro e w2 ⟨p2, c2, rfl, o2, r2, hc2, b⟩
      have Sw2 := Lib.hid b.size
      have L2 := Lib.hid o2.span
      have HB := Lib.hid (chain0 (w := w) (by repeat (first | with_reducible exact Below.refl _ _ | with_reducible exact HB.out | with_reducible apply Below.drew | with_reducible apply bdN | with_reducible refine Below.alloc ?_ (by first | exact Nat.le_refl _ | with_reducible exact HB.out.size | omega | (simp; done) | (simp; omega) | (have := HB.out.size; simp at *; omega)) _ | with_reducible refine Below.setCell ?_ (by first | exact Nat.le_refl _ | with_reducible exact HB.out.size | omega | (simp; done) | (simp; omega) | (have := HB.out.size; simp at *; omega)) _)) b)
      have Zw2 := Lib.hid HB.out.size
      have HR := Lib.hid (Rd.below (by repeat (first | with_reducible exact HR.out | with_reducible apply Rd.drewN | with_reducible apply Rd.drew | with_reducible apply Rd.alloc)) b)
      have HQ := Lib.hid (Rd.below (by repeat (first | with_reducible exact HQ.out | with_reducible apply Rd.drewN | with_reducible apply Rd.drew | with_reducible apply Rd.alloc)) b)
      have O1 := Lib.hid (Own.below (by repeat (first | with_reducible exact O1.out | with_reducible apply Own.drewN | with_reducible apply Own.drew | with_reducible apply Own.alloc)) b)
      have R1 := Lib.hid (Rd.below (by repeat (first | with_reducible exact R1.out | with_reducible apply Rd.drewN | with_reducible apply Rd.drew | with_reducible apply Rd.alloc)) b)
      have O2 := Lib.hid o2
      have R2 := Lib.hid r2
      clear b o2 r2
      go_wp2_with fail
      refine ((HS.out p1 p2 n c1 k c2 _ HN.out HN2.out (by omega) (by omega) R1.out R2.out hc2)).mono ?_
      rintro e w3 ⟨va, rfl, oa, b⟩
      obtain ⟨pa, ca, rfl, hca, ra, _⟩ := oa.form
      rw [HMm.out] at oa hca ⊢
      have Sw3 := Lib.hid b.size
      have La := Lib.hid oa.span
      have HB := Lib.hid (chain0 (w := w) (by repeat (first | with_reducible exact Below.refl _ _ | with_reducible exact HB.out | with_reducible apply Below.drew | with_reducible apply bdN | with_reducible refine Below.alloc ?_ (by first | exact Nat.le_refl _ | with_reducible exact HB.out.size | omega | (simp; done) | (simp; omega) | (have := HB.out.size; simp at *; omega)) _ | with_reducible refine Below.setCell ?_ (by first | exact Nat.le_refl _ | with_reducible exact HB.out.size | omega | (simp; done) | (simp; omega) | (have := HB.out.size; simp at *; omega)) _)) b)
      have Zw3 := Lib.hid HB.out.size
      have HR := Lib.hid (Rd.below (by repeat (first | with_reducible exact HR.out | with_reducible apply Rd.drewN | with_reducible apply Rd.drew | with_reducible apply Rd.alloc)) b)
      have HQ := Lib.hid (Rd.below (by repeat (first | with_reducible exact HQ.out | with_reducible apply Rd.drewN | with_reducible apply Rd.drew | with_reducible apply Rd.alloc)) b)
      have O1 := Lib.hid (Own.below (by repeat (first | with_reducible exact O1.out | with_reducible apply Own.drewN | with_reducible apply Own.drew | with_reducible apply Own.alloc)) b)
      have R1 := Lib.hid (Rd.below (by repeat (first | with_reducible exact R1.out | with_reducible apply Rd.drewN | with_reducible apply Rd.drew | with_reducible apply Rd.alloc)) b)
      have O2 := Lib.hid (OwnA3.below (by repeat (first | with_reducible exact O2.out | with_reducible apply OwnA3.drewN | with_reducible apply OwnA3.drew | with_reducible apply OwnA3.alloc)) b)
      have R2 := Lib.hid (Rd.below (by repeat (first | with_reducible exact R2.out | with_reducible apply Rd.drewN | with_reducible apply Rd.drew | with_reducible apply Rd.alloc)) b)
      have Oa := Lib.hid oa
      have Ra := Lib.hid ra
      clear b oa ra
      go_wp2_with fail
      refine ((to_hand' l p n c _ HN.out (by omega) HR.out)).mono ?_
      rintro e w4 ⟨p3, c3, rfl, o3, r3, hc3, b⟩
      have Sw4 := Lib.hid b.size
      have L3 := Lib.hid o3.span
      have HB := Lib.hid (chain0 (w := w) (by repeat (first | with_reducible exact Below.refl _ _ | with_reducible exact HB.out | with_reducible apply Below.drew | with_reducible apply bdN | with_reducible refine Below.alloc ?_ (by first | exact Nat.le_refl _ | with_reducible exact HB.out.size | omega | (simp; done) | (simp; omega) | (have := HB.out.size; simp at *; omega)) _ | with_reducible refine Below.setCell ?_ (by first | exact Nat.le_refl _ | with_reducible exact HB.out.size | omega | (simp; done) | (simp; omega) | (have := HB.out.size; simp at *; omega)) _)) b)
      have Zw4 := Lib.hid HB.out.size
      have HR := Lib.hid (Rd.below (by repeat (first | with_reducible exact HR.out | with_reducible apply Rd.drewN | with_reducible apply Rd.drew | with_reducible apply Rd.alloc)) b)
      have HQ := Lib.hid (Rd.below (by repeat (first | with_reducible exact HQ.out | with_reducible apply Rd.drewN | with_reducible apply Rd.drew | with_reducible apply Rd.alloc)) b)
      have Oa := Lib.hid (Own.below (by repeat (first | with_reducible exact Oa.out | with_reducible apply Own.drewN | with_reducible apply Own.drew | with_reducible apply Own.alloc)) b)
      have Ra := Lib.hid (Rd.below (by repeat (first | with_reducible exact Ra.out | with_reducible apply Rd.drewN | with_reducible apply Rd.drew | with_reducible apply Rd.alloc)) b)
      have O3 := Lib.hid o3
      have R3 := Lib.hid r3
      clear b o3 r3
      go_wp2_with fail
      refine ((to_lines' l2 q k d _ HN2.out (by omega) HQ.out)).mono ?_
      rintro e w5 ⟨p4, c4, rfl, o4, r4, hc4, b⟩
      have Sw5 := Lib.hid b.size
      have L4 := Lib.hid o4.span
      have HB := Lib.hid (chain0 (w := w) (by repeat (first | with_reducible exact Below.refl _ _ | with_reducible exact HB.out | with_reducible apply Below.drew | with_reducible apply bdN | with_reducible refine Below.alloc ?_ (by first | exact Nat.le_refl _ | with_reducible exact HB.out.size | omega | (simp; done) | (simp; omega) | (have := HB.out.size; simp at *; omega)) _ | with_reducible refine Below.setCell ?_ (by first | exact Nat.le_refl _ | with_reducible exact HB.out.size | omega | (simp; done) | (simp; omega) | (have := HB.out.size; simp at *; omega)) _)) b)
      have Zw5 := Lib.hid HB.out.size
      have HR := Lib.hid (Rd.below (by repeat (first | with_reducible exact HR.out | with_reducible apply Rd.drewN | with_reducible apply Rd.drew | with_reducible apply Rd.alloc)) b)
      have HQ := Lib.hid (Rd.below (by repeat (first | with_reducible exact HQ.out | with_reducible apply Rd.drewN | with_reducible apply Rd.drew | with_reducible apply Rd.alloc)) b)
      have Oa := Lib.hid (Own.below (by repeat (first | with_reducible exact Oa.out | with_reducible apply Own.drewN | with_reducible apply Own.drew | with_reducible apply Own.alloc)) b)
      have Ra := Lib.hid (Rd.below (by repeat (first | with_reducible exact Ra.out | with_reducible apply Rd.drewN | with_reducible apply Rd.drew | with_reducible apply Rd.alloc)) b)
      have O3 := Lib.hid (Own.below (by repeat (first | with_reducible exact O3.out | with_reducible apply Own.drewN | with_reducible apply Own.drew | with_reducible apply Own.alloc)) b)
      have R3 := Lib.hid (Rd.below (by repeat (first | with_reducible exact R3.out | with_reducible apply Rd.drewN | with_reducible apply Rd.drew | with_reducible apply Rd.alloc)) b)
      have O4 := Lib.hid o4
      have R4 := Lib.hid r4
      clear b o4 r4
      go_wp2_with fail
      refine ((HI.out p3 p4 n c3 k c4 _ HN.out HN2.out (by omega) (by omega) R3.out R4.out hc4)).mono ?_
      rintro e w6 ⟨vb, rfl, ob, b⟩
      obtain ⟨pb, cb, rfl, hcb, rb, _⟩ := ob.form
      rw [HMm.out] at ob hcb ⊢
      have Sw6 := Lib.hid b.size
      have Lb := Lib.hid ob.span
      have HB := Lib.hid (chain0 (w := w) (by repeat (first | with_reducible exact Below.refl _ _ | with_reducible exact HB.out | with_reducible apply Below.drew | with_reducible apply bdN | with_reducible refine Below.alloc ?_ (by first | exact Nat.le_refl _ | with_reducible exact HB.out.size | omega | (simp; done) | (simp; omega) | (have := HB.out.size; simp at *; omega)) _ | with_reducible refine Below.setCell ?_ (by first | exact Nat.le_refl _ | with_reducible exact HB.out.size | omega | (simp; done) | (simp; omega) | (have := HB.out.size; simp at *; omega)) _)) b)
      have Zw6 := Lib.hid HB.out.size
      have HR := Lib.hid (Rd.below (by repeat (first | with_reducible exact HR.out | with_reducible apply Rd.drewN | with_reducible apply Rd.drew | with_reducible apply Rd.alloc)) b)
      have HQ := Lib.hid (Rd.below (by repeat (first | with_reducible exact HQ.out | with_reducible apply Rd.drewN | with_reducible apply Rd.drew | with_reducible apply Rd.alloc)) b)
      have Oa := Lib.hid (Own.below (by repeat (first | with_reducible exact Oa.out | with_reducible apply Own.drewN | with_reducible apply Own.drew | with_reducible apply Own.alloc)) b)
      have Ra := Lib.hid (Rd.below (by repeat (first | with_reducible exact Ra.out | with_reducible apply Rd.drewN | with_reducible apply Rd.drew | with_reducible apply Rd.alloc)) b)
      have O3 := Lib.hid (Own.below (by repeat (first | with_reducible exact O3.out | with_reducible apply Own.drewN | with_reducible apply Own.drew | with_reducible apply Own.alloc)) b)
      have R3 := Lib.hid (Rd.below (by repeat (first | with_reducible exact R3.out | with_reducible apply Rd.drewN | with_reducible apply Rd.drew | with_reducible apply Rd.alloc)) b)
      have O4 := Lib.hid (OwnA3.below (by repeat (first | with_reducible exact O4.out | with_reducible apply OwnA3.drewN | with_reducible apply OwnA3.drew | with_reducible apply OwnA3.alloc)) b)
      have R4 := Lib.hid (Rd.below (by repeat (first | with_reducible exact R4.out | with_reducible apply Rd.drewN | with_reducible apply Rd.drew | with_reducible apply Rd.alloc)) b)
      have Ob := Lib.hid ob
      have Rb := Lib.hid rb
      clear b ob rb
      go_wp2_with fail
      refine ((eq_hand R pb pa m cb ca _ HMm.out (by have := HL.out; omega) Rb.out Ra.out)).mono ?_
      rintro e w7 ⟨rfl, b⟩
      have Sw7 := Lib.hid b.size
      have HB := Lib.hid (chain0 (w := w) (by repeat (first | with_reducible exact Below.refl _ _ | with_reducible exact HB.out | with_reducible apply Below.drew | with_reducible apply bdN | with_reducible refine Below.alloc ?_ (by first | exact Nat.le_refl _ | with_reducible exact HB.out.size | omega | (simp; done) | (simp; omega) | (have := HB.out.size; simp at *; omega)) _ | with_reducible refine Below.setCell ?_ (by first | exact Nat.le_refl _ | with_reducible exact HB.out.size | omega | (simp; done) | (simp; omega) | (have := HB.out.size; simp at *; omega)) _)) b)
      have HR := Lib.hid (Rd.below (by repeat (first | with_reducible exact HR.out | with_reducible apply Rd.drewN | with_reducible apply Rd.drew | with_reducible apply Rd.alloc)) b)
      have HQ := Lib.hid (Rd.below (by repeat (first | with_reducible exact HQ.out | with_reducible apply Rd.drewN | with_reducible apply Rd.drew | with_reducible apply Rd.alloc)) b)
      have Oa := Lib.hid (Own.below (by repeat (first | with_reducible exact Oa.out | with_reducible apply Own.drewN | with_reducible apply Own.drew | with_reducible apply Own.alloc)) b)
      have Ra := Lib.hid (Rd.below (by repeat (first | with_reducible exact Ra.out | with_reducible apply Rd.drewN | with_reducible apply Rd.drew | with_reducible apply Rd.alloc)) b)
      have O3 := Lib.hid (Own.below (by repeat (first | with_reducible exact O3.out | with_reducible apply Own.drewN | with_reducible apply Own.drew | with_reducible apply Own.alloc)) b)
      have R3 := Lib.hid (Rd.below (by repeat (first | with_reducible exact R3.out | with_reducible apply Rd.drewN | with_reducible apply Rd.drew | with_reducible apply Rd.alloc)) b)
      have O4 := Lib.hid (OwnA3.below (by repeat (first | with_reducible exact O4.out | with_reducible apply OwnA3.drewN | with_reducible apply OwnA3.drew | with_reducible apply OwnA3.alloc)) b)
      have R4 := Lib.hid (Rd.below (by repeat (first | with_reducible exact R4.out | with_reducible apply Rd.drewN | with_reducible apply Rd.drew | with_reducible apply Rd.alloc)) b)
      have Ob := Lib.hid (Own.below (by repeat (first | with_reducible exact Ob.out | with_reducible apply Own.drewN | with_reducible apply Own.drew | with_reducible apply Own.alloc)) b)
      have Rb := Lib.hid (Rd.below (by repeat (first | with_reducible exact Rb.out | with_reducible apply Rd.drewN | with_reducible apply Rd.drew | with_reducible apply Rd.alloc)) b)
      clear b
      go_wp2_with fail
      refine ((to_hand' l p n c _ HN.out (by omega) HR.out)).mono ?_
      rintro e w8 ⟨p5, c5, rfl, o5, r5, hc5, b⟩
      have Sw8 := Lib.hid b.size
      have L5 := Lib.hid o5.span
      have HB := Lib.hid (chain0 (w := w) (by repeat (first | with_reducible exact Below.refl _ _ | with_reducible exact HB.out | with_reducible apply Below.drew | with_reducible apply bdN | with_reducible refine Below.alloc ?_ (by first | exact Nat.le_refl _ | with_reducible exact HB.out.size | omega | (simp; done) | (simp; omega) | (have := HB.out.size; simp at *; omega)) _ | with_reducible refine Below.setCell ?_ (by first | exact Nat.le_refl _ | with_reducible exact HB.out.size | omega | (simp; done) | (simp; omega) | (have := HB.out.size; simp at *; omega)) _)) b)
      have Zw8 := Lib.hid HB.out.size
      have HR := Lib.hid (Rd.below (by repeat (first | with_reducible exact HR.out | with_reducible apply Rd.drewN | with_reducible apply Rd.drew | with_reducible apply Rd.alloc)) b)
      have HQ := Lib.hid (Rd.below (by repeat (first | with_reducible exact HQ.out | with_reducible apply Rd.drewN | with_reducible apply Rd.drew | with_reducible apply Rd.alloc)) b)
      have Oa := Lib.hid (Own.below (by repeat (first | with_reducible exact Oa.out | with_reducible apply Own.drewN | with_reducible apply Own.drew | with_reducible apply Own.alloc)) b)
      have Ra := Lib.hid (Rd.below (by repeat (first | with_reducible exact Ra.out | with_reducible apply Rd.drewN | with_reducible apply Rd.drew | with_reducible apply Rd.alloc)) b)
      have O3 := Lib.hid (Own.below (by repeat (first | with_reducible exact O3.out | with_reducible apply Own.drewN | with_reducible apply Own.drew | with_reducible apply Own.alloc)) b)
      have R3 := Lib.hid (Rd.below (by repeat (first | with_reducible exact R3.out | with_reducible apply Rd.drewN | with_reducible apply Rd.drew | with_reducible apply Rd.alloc)) b)
      have O4 := Lib.hid (OwnA3.below (by repeat (first | with_reducible exact O4.out | with_reducible apply OwnA3.drewN | with_reducible apply OwnA3.drew | with_reducible apply OwnA3.alloc)) b)
      have R4 := Lib.hid (Rd.below (by repeat (first | with_reducible exact R4.out | with_reducible apply Rd.drewN | with_reducible apply Rd.drew | with_reducible apply Rd.alloc)) b)
      have Ob := Lib.hid (Own.below (by repeat (first | with_reducible exact Ob.out | with_reducible apply Own.drewN | with_reducible apply Own.drew | with_reducible apply Own.alloc)) b)
      have Rb := Lib.hid (Rd.below (by repeat (first | with_reducible exact Rb.out | with_reducible apply Rd.drewN | with_reducible apply Rd.drew | with_reducible apply Rd.alloc)) b)
      have O5 := Lib.hid o5
      have R5 := Lib.hid r5
      clear b o5 r5
      go_wp2_with fail
      refine ((eq_hand l p3 p5 n c3 c5 _ HN.out (by omega) R3.out R5.out)).mono ?_
      rintro e w9 ⟨rfl, b⟩
      have Sw9 := Lib.hid b.size
      have HB := Lib.hid (chain0 (w := w) (by repeat (first | with_reducible exact Below.refl _ _ | with_reducible exact HB.out | with_reducible apply Below.drew | with_reducible apply bdN | with_reducible refine Below.alloc ?_ (by first | exact Nat.le_refl _ | with_reducible exact HB.out.size | omega | (simp; done) | (simp; omega) | (have := HB.out.size; simp at *; omega)) _ | with_reducible refine Below.setCell ?_ (by first | exact Nat.le_refl _ | with_reducible exact HB.out.size | omega | (simp; done) | (simp; omega) | (have := HB.out.size; simp at *; omega)) _)) b)
      have HR := Lib.hid (Rd.below (by repeat (first | with_reducible exact HR.out | with_reducible apply Rd.drewN | with_reducible apply Rd.drew | with_reducible apply Rd.alloc)) b)
      have HQ := Lib.hid (Rd.below (by repeat (first | with_reducible exact HQ.out | with_reducible apply Rd.drewN | with_reducible apply Rd.drew | with_reducible apply Rd.alloc)) b)
      have Oa := Lib.hid (Own.below (by repeat (first | with_reducible exact Oa.out | with_reducible apply Own.drewN | with_reducible apply Own.drew | with_reducible apply Own.alloc)) b)
      have Ra := Lib.hid (Rd.below (by repeat (first | with_reducible exact Ra.out | with_reducible apply Rd.drewN | with_reducible apply Rd.drew | with_reducible apply Rd.alloc)) b)
      have O3 := Lib.hid (Own.below (by repeat (first | with_reducible exact O3.out | with_reducible apply Own.drewN | with_reducible apply Own.drew | with_reducible apply Own.alloc)) b)
      have R3 := Lib.hid (Rd.below (by repeat (first | with_reducible exact R3.out | with_reducible apply Rd.drewN | with_reducible apply Rd.drew | with_reducible apply Rd.alloc)) b)
      have O4 := Lib.hid (OwnA3.below (by repeat (first | with_reducible exact O4.out | with_reducible apply OwnA3.drewN | with_reducible apply OwnA3.drew | with_reducible apply OwnA3.alloc)) b)
      have R4 := Lib.hid (Rd.below (by repeat (first | with_reducible exact R4.out | with_reducible apply Rd.drewN | with_reducible apply Rd.drew | with_reducible apply Rd.alloc)) b)
      have Ob := Lib.hid (Own.below (by repeat (first | with_reducible exact Ob.out | with_reducible apply Own.drewN | with_reducible apply Own.drew | with_reducible apply Own.alloc)) b)
      have Rb := Lib.hid (Rd.below (by repeat (first | with_reducible exact Rb.out | with_reducible apply Rd.drewN | with_reducible apply Rd.drew | with_reducible apply Rd.alloc)) b)
      have O5 := Lib.hid (Own.below (by repeat (first | with_reducible exact O5.out | with_reducible apply Own.drewN | with_reducible apply Own.drew | with_reducible apply Own.alloc)) b)
      have R5 := Lib.hid (Rd.below (by repeat (first | with_reducible exact R5.out | with_reducible apply Rd.drewN | with_reducible apply Rd.drew | with_reducible apply Rd.alloc)) b)
      clear b
      go_wp2_with fail
      refine ((to_lines' l2 q k d _ HN2.out (by omega) HQ.out)).mono ?_
      rintro e w10 ⟨p6, c6, rfl, o6, r6, hc6, b⟩
      have Sw10 := Lib.hid b.size
      have L6 := Lib.hid o6.span
      have HB := Lib.hid (chain0 (w := w) (by repeat (first | with_reducible exact Below.refl _ _ | with_reducible exact HB.out | with_reducible apply Below.drew | with_reducible apply bdN | with_reducible refine Below.alloc ?_ (by first | exact Nat.le_refl _ | with_reducible exact HB.out.size | omega | (simp; done) | (simp; omega) | (have := HB.out.size; simp at *; omega)) _ | with_reducible refine Below.setCell ?_ (by first | exact Nat.le_refl _ | with_reducible exact HB.out.size | omega | (simp; done) | (simp; omega) | (have := HB.out.size; simp at *; omega)) _)) b)
      have Zw10 := Lib.hid HB.out.size
      have HR := Lib.hid (Rd.below (by repeat (first | with_reducible exact HR.out | with_reducible apply Rd.drewN | with_reducible apply Rd.drew | with_reducible apply Rd.alloc)) b)
      have HQ := Lib.hid (Rd.below (by repeat (first | with_reducible exact HQ.out | with_reducible apply Rd.drewN | with_reducible apply Rd.drew | with_reducible apply Rd.alloc)) b)
      have Oa := Lib.hid (Own.below (by repeat (first | with_reducible exact Oa.out | with_reducible apply Own.drewN | with_reducible apply Own.drew | with_reducible apply Own.alloc)) b)
      have Ra := Lib.hid (Rd.below (by repeat (first | with_reducible exact Ra.out | with_reducible apply Rd.drewN | with_reducible apply Rd.drew | with_reducible apply Rd.alloc)) b)
      have O3 := Lib.hid (Own.below (by repeat (first | with_reducible exact O3.out | with_reducible apply Own.drewN | with_reducible apply Own.drew | with_reducible apply Own.alloc)) b)
      have R3 := Lib.hid (Rd.below (by repeat (first | with_reducible exact R3.out | with_reducible apply Rd.drewN | with_reducible apply Rd.drew | with_reducible apply Rd.alloc)) b)
      have O4 := Lib.hid (OwnA3.below (by repeat (first | with_reducible exact O4.out | with_reducible apply OwnA3.drewN | with_reducible apply OwnA3.drew | with_reducible apply OwnA3.alloc)) b)
      have R4 := Lib.hid (Rd.below (by repeat (first | with_reducible exact R4.out | with_reducible apply Rd.drewN | with_reducible apply Rd.drew | with_reducible apply Rd.alloc)) b)
      have Ob := Lib.hid (Own.below (by repeat (first | with_reducible exact Ob.out | with_reducible apply Own.drewN | with_reducible apply Own.drew | with_reducible apply Own.alloc)) b)
      have Rb := Lib.hid (Rd.below (by repeat (first | with_reducible exact Rb.out | with_reducible apply Rd.drewN | with_reducible apply Rd.drew | with_reducible apply Rd.alloc)) b)
      have O6 := Lib.hid o6
      have R6 := Lib.hid r6
      clear b o6 r6
      go_wp2_with fail
      refine ((eq_rowsA3 l2 p4 p6 k c4 c6 _ HN2.out (by omega) R4.out R6.out)).mono ?_
      rintro e w11 ⟨rfl, b⟩
      have Sw11 := Lib.hid b.size
      have HB := Lib.hid (chain0 (w := w) (by repeat (first | with_reducible exact Below.refl _ _ | with_reducible exact HB.out | with_reducible apply Below.drew | with_reducible apply bdN | with_reducible refine Below.alloc ?_ (by first | exact Nat.le_refl _ | with_reducible exact HB.out.size | omega | (simp; done) | (simp; omega) | (have := HB.out.size; simp at *; omega)) _ | with_reducible refine Below.setCell ?_ (by first | exact Nat.le_refl _ | with_reducible exact HB.out.size | omega | (simp; done) | (simp; omega) | (have := HB.out.size; simp at *; omega)) _)) b)
      have HR := Lib.hid (Rd.below (by repeat (first | with_reducible exact HR.out | with_reducible apply Rd.drewN | with_reducible apply Rd.drew | with_reducible apply Rd.alloc)) b)
      have HQ := Lib.hid (Rd.below (by repeat (first | with_reducible exact HQ.out | with_reducible apply Rd.drewN | with_reducible apply Rd.drew | with_reducible apply Rd.alloc)) b)
      have Oa := Lib.hid (Own.below (by repeat (first | with_reducible exact Oa.out | with_reducible apply Own.drewN | with_reducible apply Own.drew | with_reducible apply Own.alloc)) b)
      have Ra := Lib.hid (Rd.below (by repeat (first | with_reducible exact Ra.out | with_reducible apply Rd.drewN | with_reducible apply Rd.drew | with_reducible apply Rd.alloc)) b)
      have O3 := Lib.hid (Own.below (by repeat (first | with_reducible exact O3.out | with_reducible apply Own.drewN | with_reducible apply Own.drew | with_reducible apply Own.alloc)) b)
      have R3 := Lib.hid (Rd.below (by repeat (first | with_reducible exact R3.out | with_reducible apply Rd.drewN | with_reducible apply Rd.drew | with_reducible apply Rd.alloc)) b)
      have O4 := Lib.hid (OwnA3.below (by repeat (first | with_reducible exact O4.out | with_reducible apply OwnA3.drewN | with_reducible apply OwnA3.drew | with_reducible apply OwnA3.alloc)) b)
      have R4 := Lib.hid (Rd.below (by repeat (first | with_reducible exact R4.out | with_reducible apply Rd.drewN | with_reducible apply Rd.drew | with_reducible apply Rd.alloc)) b)
      have Ob := Lib.hid (Own.below (by repeat (first | with_reducible exact Ob.out | with_reducible apply Own.drewN | with_reducible apply Own.drew | with_reducible apply Own.alloc)) b)
      have Rb := Lib.hid (Rd.below (by repeat (first | with_reducible exact Rb.out | with_reducible apply Rd.drewN | with_reducible apply Rd.drew | with_reducible apply Rd.alloc)) b)
      have O6 := Lib.hid (OwnA3.below (by repeat (first | with_reducible exact O6.out | with_reducible apply OwnA3.drewN | with_reducible apply OwnA3.drew | with_reducible apply OwnA3.alloc)) b)
      have R6 := Lib.hid (Rd.below (by repeat (first | with_reducible exact R6.out | with_reducible apply Rd.drewN | with_reducible apply Rd.drew | with_reducible apply Rd.alloc)) b)
      clear b
      go_wp2_with fail
      refine ((mark_handK l (.slice p3 n c3) _ 1 k1 n _ HN.out HK1.out (by have := HK2.out; have := HKb.out; omega) (by have := Sw4.out; have := Sw5.out; have := Sw6.out; have := Sw7.out; have := Sw8.out; have := Sw9.out; have := Sw10.out; have := Sw11.out; omega) O3.out)).mono ?_
      rintro e w12 ⟨rfl, oM, gM⟩
      have Sw12 := Lib.hid gM.size
      have HB := Lib.hid (Below.grown HB.out gM HB.out.size (fun k hk => Nat.le_trans (by have h0 := Zw1.out; have h1 := Sw1.out; have h2 := Zw2.out; have h3 := Sw2.out; have h4 := Zw3.out; have h5 := Sw3.out; have h6 := Zw4.out; have h7 := Sw4.out; have h8 := Zw5.out; have h9 := Sw5.out; have h10 := Zw6.out; have h11 := Sw6.out; have h12 := Sw7.out; have h13 := Zw8.out; have h14 := Sw8.out; have h15 := Sw9.out; have h16 := Zw10.out; have h17 := Sw10.out; have h18 := Sw11.out; first | omega | (simp at *; omega)) (L3.out k hk).1))
      have HR := Lib.hid (Rd.below HR0.out HB.out)
      have HQ := Lib.hid (Rd.below HQ0.out HB.out)
      have Oa := Lib.hid (Own.stay Oa.out gM La.out L3.out (by have h0 := Zw1.out; have h1 := Sw1.out; have h2 := Zw2.out; have h3 := Sw2.out; have h4 := Zw3.out; have h5 := Sw3.out; have h6 := Zw4.out; have h7 := Sw4.out; have h8 := Zw5.out; have h9 := Sw5.out; have h10 := Zw6.out; have h11 := Sw6.out; have h12 := Sw7.out; have h13 := Zw8.out; have h14 := Sw8.out; have h15 := Sw9.out; have h16 := Zw10.out; have h17 := Sw10.out; have h18 := Sw11.out; first | omega | (simp at *; omega)))
      have O4 := Lib.hid (OwnA3.stay O4.out gM L4.out L3.out (by have h0 := Zw1.out; have h1 := Sw1.out; have h2 := Zw2.out; have h3 := Sw2.out; have h4 := Zw3.out; have h5 := Sw3.out; have h6 := Zw4.out; have h7 := Sw4.out; have h8 := Zw5.out; have h9 := Sw5.out; have h10 := Zw6.out; have h11 := Sw6.out; have h12 := Sw7.out; have h13 := Zw8.out; have h14 := Sw8.out; have h15 := Sw9.out; have h16 := Zw10.out; have h17 := Sw10.out; have h18 := Sw11.out; first | omega | (simp at *; omega)))
      have Ob := Lib.hid (Own.stay Ob.out gM Lb.out L3.out (by have h0 := Zw1.out; have h1 := Sw1.out; have h2 := Zw2.out; have h3 := Sw2.out; have h4 := Zw3.out; have h5 := Sw3.out; have h6 := Zw4.out; have h7 := Sw4.out; have h8 := Zw5.out; have h9 := Sw5.out; have h10 := Zw6.out; have h11 := Sw6.out; have h12 := Sw7.out; have h13 := Zw8.out; have h14 := Sw8.out; have h15 := Sw9.out; have h16 := Zw10.out; have h17 := Sw10.out; have h18 := Sw11.out; first | omega | (simp at *; omega)))
      have O3 := Lib.hid oM
      have Ra := Lib.hid (Own.rd Oa.out)
      have R4 := Lib.hid (OwnA3.rd O4.out)
      have Rb := Lib.hid (Own.rd Ob.out)
      clear oM gM
      go_wp2_with fail
      refine ((mark_linesK l2 (.slice p4 k c4) _ k1 k2 k _ HN2.out HK2.out HKb.out (by have := Sw5.out; have := Sw6.out; have := Sw7.out; have := Sw8.out; have := Sw9.out; have := Sw10.out; have := Sw11.out; have := Sw12.out; omega) O4.out)).mono ?_
      rintro e w13 ⟨rfl, oM, gM⟩
      have Sw13 := Lib.hid gM.size
      have HB := Lib.hid (Below.grown HB.out gM HB.out.size (fun k hk => Nat.le_trans (by have h0 := Zw1.out; have h1 := Sw1.out; have h2 := Zw2.out; have h3 := Sw2.out; have h4 := Zw3.out; have h5 := Sw3.out; have h6 := Zw4.out; have h7 := Sw4.out; have h8 := Zw5.out; have h9 := Sw5.out; have h10 := Zw6.out; have h11 := Sw6.out; have h12 := Sw7.out; have h13 := Zw8.out; have h14 := Sw8.out; have h15 := Sw9.out; have h16 := Zw10.out; have h17 := Sw10.out; have h18 := Sw11.out; have h19 := Sw12.out; first | omega | (simp at *; omega)) (L4.out k hk).1))
      have HR := Lib.hid (Rd.below HR0.out HB.out)
      have HQ := Lib.hid (Rd.below HQ0.out HB.out)
      have Oa := Lib.hid (Own.stay Oa.out gM La.out L4.out (by have h0 := Zw1.out; have h1 := Sw1.out; have h2 := Zw2.out; have h3 := Sw2.out; have h4 := Zw3.out; have h5 := Sw3.out; have h6 := Zw4.out; have h7 := Sw4.out; have h8 := Zw5.out; have h9 := Sw5.out; have h10 := Zw6.out; have h11 := Sw6.out; have h12 := Sw7.out; have h13 := Zw8.out; have h14 := Sw8.out; have h15 := Sw9.out; have h16 := Zw10.out; have h17 := Sw10.out; have h18 := Sw11.out; have h19 := Sw12.out; first | omega | (simp at *; omega)))
      have Ob := Lib.hid (Own.stay Ob.out gM Lb.out L4.out (by have h0 := Zw1.out; have h1 := Sw1.out; have h2 := Zw2.out; have h3 := Sw2.out; have h4 := Zw3.out; have h5 := Sw3.out; have h6 := Zw4.out; have h7 := Sw4.out; have h8 := Zw5.out; have h9 := Sw5.out; have h10 := Zw6.out; have h11 := Sw6.out; have h12 := Sw7.out; have h13 := Zw8.out; have h14 := Sw8.out; have h15 := Sw9.out; have h16 := Zw10.out; have h17 := Sw10.out; have h18 := Sw11.out; have h19 := Sw12.out; first | omega | (simp at *; omega)))
      have O4 := Lib.hid oM
      have Ra := Lib.hid (Own.rd Oa.out)
      have Rb := Lib.hid (Own.rd Ob.out)
      clear oM gM
      go_wp2_with fail
      refine ((eq_hand R pb pa m cb ca _ HMm.out (by have := HL.out; omega) Rb.out Ra.out)).mono ?_
      rintro e w14 ⟨rfl, b⟩
      have Sw14 := Lib.hid b.size
      have HB := Lib.hid (chain0 (w := w) (by repeat (first | with_reducible exact Below.refl _ _ | with_reducible exact HB.out | with_reducible apply Below.drew | with_reducible apply bdN | with_reducible refine Below.alloc ?_ (by first | exact Nat.le_refl _ | with_reducible exact HB.out.size | omega | (simp; done) | (simp; omega) | (have := HB.out.size; simp at *; omega)) _ | with_reducible refine Below.setCell ?_ (by first | exact Nat.le_refl _ | with_reducible exact HB.out.size | omega | (simp; done) | (simp; omega) | (have := HB.out.size; simp at *; omega)) _)) b)
      have HR := Lib.hid (Rd.below (by repeat (first | with_reducible exact HR.out | with_reducible apply Rd.drewN | with_reducible apply Rd.drew | with_reducible apply Rd.alloc)) b)
      have HQ := Lib.hid (Rd.below (by repeat (first | with_reducible exact HQ.out | with_reducible apply Rd.drewN | with_reducible apply Rd.drew | with_reducible apply Rd.alloc)) b)
      have Oa := Lib.hid (Own.below (by repeat (first | with_reducible exact Oa.out | with_reducible apply Own.drewN | with_reducible apply Own.drew | with_reducible apply Own.alloc)) b)
      have O4 := Lib.hid (OwnA3.below (by repeat (first | with_reducible exact O4.out | with_reducible apply OwnA3.drewN | with_reducible apply OwnA3.drew | with_reducible apply OwnA3.alloc)) b)
      have Ob := Lib.hid (Own.below (by repeat (first | with_reducible exact Ob.out | with_reducible apply Own.drewN | with_reducible apply Own.drew | with_reducible apply Own.alloc)) b)
      have Ra := Lib.hid (Rd.below (by repeat (first | with_reducible exact Ra.out | with_reducible apply Rd.drewN | with_reducible apply Rd.drew | with_reducible apply Rd.alloc)) b)
      have Rb := Lib.hid (Rd.below (by repeat (first | with_reducible exact Rb.out | with_reducible apply Rd.drewN | with_reducible apply Rd.drew | with_reducible apply Rd.alloc)) b)
      clear b
      go_wp2_with fail
      refine ((mark_hand R (.slice pb m cb) _ 1 m _ HMm.out (by have := HL.out; omega) (by have := Sw6.out; have := Sw7.out; have := Sw8.out; have := Sw9.out; have := Sw10.out; have := Sw11.out; have := Sw12.out; have := Sw13.out; have := Sw14.out; omega) Ob.out)).mono ?_
      rintro e w15 ⟨rfl, oM, gM⟩
      have Sw15 := Lib.hid gM.size
      have HB := Lib.hid (Below.grown HB.out gM HB.out.size (fun k hk => Nat.le_trans (by have h0 := Zw1.out; have h1 := Sw1.out; have h2 := Zw2.out; have h3 := Sw2.out; have h4 := Zw3.out; have h5 := Sw3.out; have h6 := Zw4.out; have h7 := Sw4.out; have h8 := Zw5.out; have h9 := Sw5.out; have h10 := Zw6.out; have h11 := Sw6.out; have h12 := Sw7.out; have h13 := Zw8.out; have h14 := Sw8.out; have h15 := Sw9.out; have h16 := Zw10.out; have h17 := Sw10.out; have h18 := Sw11.out; have h19 := Sw12.out; have h20 := Sw13.out; have h21 := Sw14.out; first | omega | (simp at *; omega)) (Lb.out k hk).1))
      have HR := Lib.hid (Rd.below HR0.out HB.out)
      have HQ := Lib.hid (Rd.below HQ0.out HB.out)
      have Oa := Lib.hid (Own.stay Oa.out gM La.out Lb.out (by have h0 := Zw1.out; have h1 := Sw1.out; have h2 := Zw2.out; have h3 := Sw2.out; have h4 := Zw3.out; have h5 := Sw3.out; have h6 := Zw4.out; have h7 := Sw4.out; have h8 := Zw5.out; have h9 := Sw5.out; have h10 := Zw6.out; have h11 := Sw6.out; have h12 := Sw7.out; have h13 := Zw8.out; have h14 := Sw8.out; have h15 := Sw9.out; have h16 := Zw10.out; have h17 := Sw10.out; have h18 := Sw11.out; have h19 := Sw12.out; have h20 := Sw13.out; have h21 := Sw14.out; first | omega | (simp at *; omega)))
      have Ob := Lib.hid oM
      have Ra := Lib.hid (Own.rd Oa.out)
      clear oM gM
      go_wp2_with fail
      refine ((held_hand (.slice pb m cb) _ 1 m _ (by have := HL.out; omega) Ob.out)).mono ?_
      rintro e w16 ⟨rfl, b⟩
      have Sw16 := Lib.hid b.size
      have HB := Lib.hid (chain0 (w := w) (by repeat (first | with_reducible exact Below.refl _ _ | with_reducible exact HB.out | with_reducible apply Below.drew | with_reducible apply bdN | with_reducible refine Below.alloc ?_ (by first | exact Nat.le_refl _ | with_reducible exact HB.out.size | omega | (simp; done) | (simp; omega) | (have := HB.out.size; simp at *; omega)) _ | with_reducible refine Below.setCell ?_ (by first | exact Nat.le_refl _ | with_reducible exact HB.out.size | omega | (simp; done) | (simp; omega) | (have := HB.out.size; simp at *; omega)) _)) b)
      have HR := Lib.hid (Rd.below (by repeat (first | with_reducible exact HR.out | with_reducible apply Rd.drewN | with_reducible apply Rd.drew | with_reducible apply Rd.alloc)) b)
      have HQ := Lib.hid (Rd.below (by repeat (first | with_reducible exact HQ.out | with_reducible apply Rd.drewN | with_reducible apply Rd.drew | with_reducible apply Rd.alloc)) b)
      have Oa := Lib.hid (Own.below (by repeat (first | with_reducible exact Oa.out | with_reducible apply Own.drewN | with_reducible apply Own.drew | with_reducible apply Own.alloc)) b)
      have Ob := Lib.hid (Own.below (by repeat (first | with_reducible exact Ob.out | with_reducible apply Own.drewN | with_reducible apply Own.drew | with_reducible apply Own.alloc)) b)
      have Ra := Lib.hid (Rd.below (by repeat (first | with_reducible exact Ra.out | with_reducible apply Rd.drewN | with_reducible apply Rd.drew | with_reducible apply Rd.alloc)) b)
      clear b
      go_wp2_with fail
      refine ((to_hand' l p n c _ HN.out (by omega) HR.out)).mono ?_
      rintro e w17 ⟨p7, c7, rfl, o7, r7, hc7, b⟩
      have Sw17 := Lib.hid b.size
      have L7 := Lib.hid o7.span
      have HB := Lib.hid (chain0 (w := w) (by repeat (first | with_reducible exact Below.refl _ _ | with_reducible exact HB.out | with_reducible apply Below.drew | with_reducible apply bdN | with_reducible refine Below.alloc ?_ (by first | exact Nat.le_refl _ | with_reducible exact HB.out.size | omega | (simp; done) | (simp; omega) | (have := HB.out.size; simp at *; omega)) _ | with_reducible refine Below.setCell ?_ (by first | exact Nat.le_refl _ | with_reducible exact HB.out.size | omega | (simp; done) | (simp; omega) | (have := HB.out.size; simp at *; omega)) _)) b)
      have Zw17 := Lib.hid HB.out.size
      have HR := Lib.hid (Rd.below (by repeat (first | with_reducible exact HR.out | with_reducible apply Rd.drewN | with_reducible apply Rd.drew | with_reducible apply Rd.alloc)) b)
      have HQ := Lib.hid (Rd.below (by repeat (first | with_reducible exact HQ.out | with_reducible apply Rd.drewN | with_reducible apply Rd.drew | with_reducible apply Rd.alloc)) b)
      have Oa := Lib.hid (Own.below (by repeat (first | with_reducible exact Oa.out | with_reducible apply Own.drewN | with_reducible apply Own.drew | with_reducible apply Own.alloc)) b)
      have Ob := Lib.hid (Own.below (by repeat (first | with_reducible exact Ob.out | with_reducible apply Own.drewN | with_reducible apply Own.drew | with_reducible apply Own.alloc)) b)
      have Ra := Lib.hid (Rd.below (by repeat (first | with_reducible exact Ra.out | with_reducible apply Rd.drewN | with_reducible apply Rd.drew | with_reducible apply Rd.alloc)) b)
      have O7 := Lib.hid o7
      have R7 := Lib.hid r7
      clear b o7 r7
      go_wp2_with fail
      refine ((to_lines' l2 q k d _ HN2.out (by omega) HQ.out)).mono ?_
      rintro e w18 ⟨p8, c8, rfl, o8, r8, hc8, b⟩
      have Sw18 := Lib.hid b.size
      have L8 := Lib.hid o8.span
      have HB := Lib.hid (chain0 (w := w) (by repeat (first | with_reducible exact Below.refl _ _ | with_reducible exact HB.out | with_reducible apply Below.drew | with_reducible apply bdN | with_reducible refine Below.alloc ?_ (by first | exact Nat.le_refl _ | with_reducible exact HB.out.size | omega | (simp; done) | (simp; omega) | (have := HB.out.size; simp at *; omega)) _ | with_reducible refine Below.setCell ?_ (by first | exact Nat.le_refl _ | with_reducible exact HB.out.size | omega | (simp; done) | (simp; omega) | (have := HB.out.size; simp at *; omega)) _)) b)
      have Zw18 := Lib.hid HB.out.size
      have HR := Lib.hid (Rd.below (by repeat (first | with_reducible exact HR.out | with_reducible apply Rd.drewN | with_reducible apply Rd.drew | with_reducible apply Rd.alloc)) b)
      have HQ := Lib.hid (Rd.below (by repeat (first | with_reducible exact HQ.out | with_reducible apply Rd.drewN | with_reducible apply Rd.drew | with_reducible apply Rd.alloc)) b)
      have Oa := Lib.hid (Own.below (by repeat (first | with_reducible exact Oa.out | with_reducible apply Own.drewN | with_reducible apply Own.drew | with_reducible apply Own.alloc)) b)
      have Ob := Lib.hid (Own.below (by repeat (first | with_reducible exact Ob.out | with_reducible apply Own.drewN | with_reducible apply Own.drew | with_reducible apply Own.alloc)) b)
      have Ra := Lib.hid (Rd.below (by repeat (first | with_reducible exact Ra.out | with_reducible apply Rd.drewN | with_reducible apply Rd.drew | with_reducible apply Rd.alloc)) b)
      have O7 := Lib.hid (Own.below (by repeat (first | with_reducible exact O7.out | with_reducible apply Own.drewN | with_reducible apply Own.drew | with_reducible apply Own.alloc)) b)
      have R7 := Lib.hid (Rd.below (by repeat (first | with_reducible exact R7.out | with_reducible apply Rd.drewN | with_reducible apply Rd.drew | with_reducible apply Rd.alloc)) b)
      have O8 := Lib.hid o8
      have R8 := Lib.hid r8
      clear b o8 r8
      go_wp2_with fail
      refine ((HI.out p7 p8 n c7 k c8 _ HN.out HN2.out (by omega) (by omega) R7.out R8.out hc8)).mono ?_
      rintro e w19 ⟨vc, rfl, oc, b⟩
      obtain ⟨pc, cc, rfl, hcc, rc, _⟩ := oc.form
      rw [HMm.out] at oc hcc ⊢
      have Sw19 := Lib.hid b.size
      have Lc := Lib.hid oc.span
      have HB := Lib.hid (chain0 (w := w) (by repeat (first | with_reducible exact Below.refl _ _ | with_reducible exact HB.out | with_reducible apply Below.drew | with_reducible apply bdN | with_reducible refine Below.alloc ?_ (by first | exact Nat.le_refl _ | with_reducible exact HB.out.size | omega | (simp; done) | (simp; omega) | (have := HB.out.size; simp at *; omega)) _ | with_reducible refine Below.setCell ?_ (by first | exact Nat.le_refl _ | with_reducible exact HB.out.size | omega | (simp; done) | (simp; omega) | (have := HB.out.size; simp at *; omega)) _)) b)
      have Zw19 := Lib.hid HB.out.size
      have HR := Lib.hid (Rd.below (by repeat (first | with_reducible exact HR.out | with_reducible apply Rd.drewN | with_reducible apply Rd.drew | with_reducible apply Rd.alloc)) b)
      have HQ := Lib.hid (Rd.below (by repeat (first | with_reducible exact HQ.out | with_reducible apply Rd.drewN | with_reducible apply Rd.drew | with_reducible apply Rd.alloc)) b)
      have Oa := Lib.hid (Own.below (by repeat (first | with_reducible exact Oa.out | with_reducible apply Own.drewN | with_reducible apply Own.drew | with_reducible apply Own.alloc)) b)
      have Ob := Lib.hid (Own.below (by repeat (first | with_reducible exact Ob.out | with_reducible apply Own.drewN | with_reducible apply Own.drew | with_reducible apply Own.alloc)) b)
      have Ra := Lib.hid (Rd.below (by repeat (first | with_reducible exact Ra.out | with_reducible apply Rd.drewN | with_reducible apply Rd.drew | with_reducible apply Rd.alloc)) b)
      have O7 := Lib.hid (Own.below (by repeat (first | with_reducible exact O7.out | with_reducible apply Own.drewN | with_reducible apply Own.drew | with_reducible apply Own.alloc)) b)
      have R7 := Lib.hid (Rd.below (by repeat (first | with_reducible exact R7.out | with_reducible apply Rd.drewN | with_reducible apply Rd.drew | with_reducible apply Rd.alloc)) b)
      have O8 := Lib.hid (OwnA3.below (by repeat (first | with_reducible exact O8.out | with_reducible apply OwnA3.drewN | with_reducible apply OwnA3.drew | with_reducible apply OwnA3.alloc)) b)
      have R8 := Lib.hid (Rd.below (by repeat (first | with_reducible exact R8.out | with_reducible apply Rd.drewN | with_reducible apply Rd.drew | with_reducible apply Rd.alloc)) b)
      have Oc := Lib.hid oc
      have Rc := Lib.hid rc
      clear b oc rc
      go_wp2_with fail
      refine ((eq_hand R pc pa m cc ca _ HMm.out (by have := HL.out; omega) Rc.out Ra.out)).mono ?_
      rintro e w20 ⟨rfl, b⟩
      have Sw20 := Lib.hid b.size
      have HB := Lib.hid (chain0 (w := w) (by repeat (first | with_reducible exact Below.refl _ _ | with_reducible exact HB.out | with_reducible apply Below.drew | with_reducible apply bdN | with_reducible refine Below.alloc ?_ (by first | exact Nat.le_refl _ | with_reducible exact HB.out.size | omega | (simp; done) | (simp; omega) | (have := HB.out.size; simp at *; omega)) _ | with_reducible refine Below.setCell ?_ (by first | exact Nat.le_refl _ | with_reducible exact HB.out.size | omega | (simp; done) | (simp; omega) | (have := HB.out.size; simp at *; omega)) _)) b)
      have HR := Lib.hid (Rd.below (by repeat (first | with_reducible exact HR.out | with_reducible apply Rd.drewN | with_reducible apply Rd.drew | with_reducible apply Rd.alloc)) b)
      have HQ := Lib.hid (Rd.below (by repeat (first | with_reducible exact HQ.out | with_reducible apply Rd.drewN | with_reducible apply Rd.drew | with_reducible apply Rd.alloc)) b)
      have Oa := Lib.hid (Own.below (by repeat (first | with_reducible exact Oa.out | with_reducible apply Own.drewN | with_reducible apply Own.drew | with_reducible apply Own.alloc)) b)
      have Ob := Lib.hid (Own.below (by repeat (first | with_reducible exact Ob.out | with_reducible apply Own.drewN | with_reducible apply Own.drew | with_reducible apply Own.alloc)) b)
      have Ra := Lib.hid (Rd.below (by repeat (first | with_reducible exact Ra.out | with_reducible apply Rd.drewN | with_reducible apply Rd.drew | with_reducible apply Rd.alloc)) b)
      have O7 := Lib.hid (Own.below (by repeat (first | with_reducible exact O7.out | with_reducible apply Own.drewN | with_reducible apply Own.drew | with_reducible apply Own.alloc)) b)
      have R7 := Lib.hid (Rd.below (by repeat (first | with_reducible exact R7.out | with_reducible apply Rd.drewN | with_reducible apply Rd.drew | with_reducible apply Rd.alloc)) b)
      have O8 := Lib.hid (OwnA3.below (by repeat (first | with_reducible exact O8.out | with_reducible apply OwnA3.drewN | with_reducible apply OwnA3.drew | with_reducible apply OwnA3.alloc)) b)
      have R8 := Lib.hid (Rd.below (by repeat (first | with_reducible exact R8.out | with_reducible apply Rd.drewN | with_reducible apply Rd.drew | with_reducible apply Rd.alloc)) b)
      have Oc := Lib.hid (Own.below (by repeat (first | with_reducible exact Oc.out | with_reducible apply Own.drewN | with_reducible apply Own.drew | with_reducible apply Own.alloc)) b)
      have Rc := Lib.hid (Rd.below (by repeat (first | with_reducible exact Rc.out | with_reducible apply Rd.drewN | with_reducible apply Rd.drew | with_reducible apply Rd.alloc)) b)
      clear b
      go_wp2_with fail
      refine ((held_hand (.slice pb m cb) _ 1 m _ (by have := HL.out; omega) Ob.out)).mono ?_
      rintro e w21 ⟨rfl, b⟩
      have Sw21 := Lib.hid b.size
      have HB := Lib.hid (chain0 (w := w) (by repeat (first | with_reducible exact Below.refl _ _ | with_reducible exact HB.out | with_reducible apply Below.drew | with_reducible apply bdN | with_reducible refine Below.alloc ?_ (by first | exact Nat.le_refl _ | with_reducible exact HB.out.size | omega | (simp; done) | (simp; omega) | (have := HB.out.size; simp at *; omega)) _ | with_reducible refine Below.setCell ?_ (by first | exact Nat.le_refl _ | with_reducible exact HB.out.size | omega | (simp; done) | (simp; omega) | (have := HB.out.size; simp at *; omega)) _)) b)
      have HR := Lib.hid (Rd.below (by repeat (first | with_reducible exact HR.out | with_reducible apply Rd.drewN | with_reducible apply Rd.drew | with_reducible apply Rd.alloc)) b)
      have HQ := Lib.hid (Rd.below (by repeat (first | with_reducible exact HQ.out | with_reducible apply Rd.drewN | with_reducible apply Rd.drew | with_reducible apply Rd.alloc)) b)
      have Oa := Lib.hid (Own.below (by repeat (first | with_reducible exact Oa.out | with_reducible apply Own.drewN | with_reducible apply Own.drew | with_reducible apply Own.alloc)) b)
      have Ob := Lib.hid (Own.below (by repeat (first | with_reducible exact Ob.out | with_reducible apply Own.drewN | with_reducible apply Own.drew | with_reducible apply Own.alloc)) b)
      have Ra := Lib.hid (Rd.below (by repeat (first | with_reducible exact Ra.out | with_reducible apply Rd.drewN | with_reducible apply Rd.drew | with_reducible apply Rd.alloc)) b)
      have O7 := Lib.hid (Own.below (by repeat (first | with_reducible exact O7.out | with_reducible apply Own.drewN | with_reducible apply Own.drew | with_reducible apply Own.alloc)) b)
      have R7 := Lib.hid (Rd.below (by repeat (first | with_reducible exact R7.out | with_reducible apply Rd.drewN | with_reducible apply Rd.drew | with_reducible apply Rd.alloc)) b)
      have O8 := Lib.hid (OwnA3.below (by repeat (first | with_reducible exact O8.out | with_reducible apply OwnA3.drewN | with_reducible apply OwnA3.drew | with_reducible apply OwnA3.alloc)) b)
      have R8 := Lib.hid (Rd.below (by repeat (first | with_reducible exact R8.out | with_reducible apply Rd.drewN | with_reducible apply Rd.drew | with_reducible apply Rd.alloc)) b)
      have Oc := Lib.hid (Own.below (by repeat (first | with_reducible exact Oc.out | with_reducible apply Own.drewN | with_reducible apply Own.drew | with_reducible apply Own.alloc)) b)
      have Rc := Lib.hid (Rd.below (by repeat (first | with_reducible exact Rc.out | with_reducible apply Rd.drewN | with_reducible apply Rd.drew | with_reducible apply Rd.alloc)) b)
      clear b
      go_wp2_with fail
      go_ret
      exact ⟨rfl, by repeat (first | with_reducible exact Below.refl _ _ | with_reducible exact HB.out | with_reducible apply Below.drew | with_reducible apply bdN | with_reducible refine Below.alloc ?_ (by first | exact Nat.le_refl _ | with_reducible exact HB.out.size | omega | (simp; done) | (simp; omega) | (have := HB.out.size; simp at *; omega)) _ | with_reducible refine Below.setCell ?_ (by first | exact Nat.le_refl _ | with_reducible exact HB.out.size | omega | (simp; done) | (simp; omega) | (have := HB.out.size; simp at *; omega)) _)⟩
    · rw [sz_no hs2] at S2
      have H1 := Lib.hid S1
      have H2 := Lib.hid S2
      have hf0 : ¬ (f : Int) < 0 := by omega
      clear S1 S2 hs2 hf
      go_enter Try.func13, Try.ntmps13
      go_wp2_with fail
      refine (H1.out _).mono ?_
      rintro e w' ⟨rfl, rfl⟩
      go_wp2_with fail
      refine (H2.out _).mono ?_
      rintro e w' ⟨rfl, rfl⟩
      go_wp2_with fail
      go_ret
      exact ⟨rfl, by repeat (first | with_reducible exact Below.refl _ _ | with_reducible exact HB.out | with_reducible apply Below.drew | with_reducible apply bdN | with_reducible refine Below.alloc ?_ (by first | exact Nat.le_refl _ | with_reducible exact HB.out.size | omega | (simp; done) | (simp; omega) | (have := HB.out.size; simp at *; omega)) _ | with_reducible refine Below.setCell ?_ (by first | exact Nat.le_refl _ | with_reducible exact HB.out.size | omega | (simp; done) | (simp; omega) | (have := HB.out.size; simp at *; omega)) _)⟩
  · have z0 := szLeft_no hs
    go_enter Try.func13, Try.ntmps13
    go_wp2_with fail
    refine (sz_hand p n c 1048576 _ (by omega) (by omega) HM.out).mono ?_
    rintro e w' ⟨rfl, rfl⟩
    go_wp2_with fail
    go_ret
    exact ⟨rfl, by repeat (first | with_reducible exact Below.refl _ _ | with_reducible exact HB.out | with_reducible apply Below.drew | with_reducible apply bdN | with_reducible refine Below.alloc ?_ (by first | exact Nat.le_refl _ | with_reducible exact HB.out.size | omega | (simp; done) | (simp; omega) | (have := HB.out.size; simp at *; omega)) _ | with_reducible refine Below.setCell ?_ (by first | exact Nat.le_refl _ | with_reducible exact HB.out.size | omega | (simp; done) | (simp; omega) | (have := HB.out.size; simp at *; omega)) _)⟩

theorem own : ownKnob Try.prog.godebug = none := by kernel_rfl
theorem laidOut : laidOutB Try.prog = true := by kernel_rfl
set_option maxRecDepth 100000 in
set_option maxHeartbeats 1000000 in
theorem lifted (os : Os) (started : os.Started) (H : Type) (enc : TypeId × Value → H) :
    ReturnsInHanded {} Try.checked os 13 .any (Rows.fnExactLeftCardsSpec.pre6 enc Try.prog Try.f13 Rows.fnExactLeftCardsRow.domain false) (Rows.fnExactLeftCardsSpec.post enc Try.prog Try.f13 false true false false) := by
  refine returnsInHanded_of_change (C := Try.checked) own started (by kernel_rfl) Try.func13
    (ChangeSpec.witness6 (enc := enc) (C := Try.checked) false ⟨#[], #[.slice none 0 0, .slice none 0 0], []⟩ 8 (by kernel_rfl) (by kernel_rfl) (by kernel_rfl) (by kernel_rfl)) ?_
  intro W base args ds gs before hval0 hW hcnd _
  have hval : ∀ (j : Nat) t v, Try.f13.params[j]? = some t → args[j]? = some v → Value.okWide Try.prog W .any base t v := hval0
  have hW' := hW
  obtain ⟨p, q, hA0, hV, rfl, hfz, hnd⟩ := hW
  have hA : DataW.TrodAll enc Try.prog W 0 (fun _ => true) true Try.f13.params.toList args.toList ds p := hA0
  rw [Try.params13] at hA hval
  have hR := fun (W' : World) (hb : Below W.heap.size W W') => frame.still_all laidOut hb _ _ _ _ (by decide +kernel) hA
  obtain ⟨v0, vs0, d0, ds0, p0, q0, hargs, rfl, hp, h0, r0⟩ := trodAll_cons hA
  obtain ⟨v1, vs1, d1, ds1, p1, q1, rfl, rfl, hp1, h1, r1⟩ := trodAll_cons r0
  obtain ⟨rfl, rfl, hpn⟩ := trodAll_nil r1
  obtain rfl : args = #[v0, v1] := by cases args; simp_all
  obtain ⟨rfl, rfl⟩ := trodVars_none hV
  obtain ⟨b0, n0, c0, l0, rfl, w0⟩ := frame.open_hand Try.underlying22 Try.underlying48 Try.underlying3 (by kernel_rfl) (by kernel_rfl) (hval 0 22 v0 rfl rfl) h0
  obtain ⟨b1, n1, c1, l1, rfl, w1⟩ := frame.open_lines Try.underlying24 Try.underlying56 Try.underlying3 (by kernel_rfl) (by kernel_rfl) (hval 1 24 v1 rfl rfl) h1
  clear hA0 hval0
  simp only [List.append_nil] at hW'
  refine (walk b0 n0 c0 l0 b1 n1 c1 l1 W w0 w1).mono fun e W' ⟨he, hw⟩ => ?_
  subst he
  exact ⟨_, rfl, _, _, _, [], p, [], hW', trodAll_mk1 (shut_bool Try.underlying4 _), hR W' hw, rfl, hw.frame _, fun h => by cases h⟩

theorem over : Rows.fnExactLeftCardsRow.holds Try.pinned (OpenSpec.ofChange Rows.fnExactLeftCardsSpec) :=
  OpenClaim.holds_of_wide 13 Try.f13 rfl rfl rfl rfl rfl rfl rfl ⟨rfl, rfl, rfl, rfl, rfl⟩ rfl rfl rfl rfl rfl (by kernel_rfl) Try.func13 (by kernel_rfl)
    (of_decide_eq_true (by kernel_rfl)) (by unfold Func.isWrapper; first | (rw [if_pos (by decide +kernel)]; kernel_rfl) | (rw [if_neg (by decide +kernel)]; exact ⟨rfl, rfl⟩))
    (fun os started H enc _ => lifted os started H enc)

theorem proved : Rows.FnExactLeftCardsSaid := over
end Go.Proofs.Ytnmlggieabjapaa.lawLeftCards