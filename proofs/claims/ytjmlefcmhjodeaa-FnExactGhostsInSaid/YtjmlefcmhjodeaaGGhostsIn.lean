/- FnExactGhostsIn: for every list of cards, valid or not, the law returns true and its argument reads as before. No condition. -/
import Derived.Test.YtjmlefcmhjodeaaRows
import Derived.Test.YtjmlefcmhjodeaaFr
import Derived.Test.YtjmlefcmhjodeaaGGhostsIn0
import Derived.Test.YtjmlefcmhjodeaaGGhostsIn1
namespace Go.Proofs.Ytjmlefcmhjodeaa.lawGhostsIn
open Go.ChangeShapes Go.WideShapes Go.ChangeAt Go.RowKit
open Go.ChangeMaps (open_string shut_string)
open cards others
set_option linter.unusedVariables false

set_option maxRecDepth 100000 in
set_option maxHeartbeats 4000000 in
theorem walk (p : Option Addr) (n c : Nat) (l : List Cd) (w : World) (hw : l.length = n ∧ n ≤ maxLen ∧ Rd w p (flat l)) :
    Calls Try.prog 13 #[.slice p n c] w fun e w' => e = .returned (.bool true) ∧ Below w.heap.size w w' := by
  obtain ⟨hn, hm, hr⟩ := hw
  have HN := Lib.hid hn
  have HM := Lib.hid hm
  have HR := Lib.hid hr
  have HR0 := Lib.hid hr
  clear hn hm hr
  by_cases hs : n ≤ 1048576
  · obtain ⟨z0, z1⟩ := szLeft_yes hs
    have HL : Hid ((ghR l).1.length ≤ 100000000) := Lib.hid (Nat.le_trans (ghR_len l) (by omega))
    obtain ⟨R, hR⟩ : ∃ R, (ghR l).1 = R := ⟨_, rfl⟩
    obtain ⟨ok, hok⟩ : ∃ ok, (ghR l).2 = ok := ⟨_, rfl⟩
    have HS := Lib.hid (fun p n c w a b d => spec_gi l p n c w a b d)
    have HI := Lib.hid (fun p n c w a b d => impl_gi l p n c w a b d)
    rw [hR] at HL HS HI
    rw [hok] at HS HI
    clear hR hok
    obtain ⟨m, hm⟩ : ∃ m, R.length = m := ⟨_, rfl⟩
    have HMm := Lib.hid hm
    rw [hm] at HL
    clear hm
    go_enter Try.func13, Try.ntmps13
    go_wp2_with fail
    refine (sz_hand p n c 1048576 _ (by omega) (by omega) HM.out).mono ?_
    rintro e w' ⟨rfl, rfl⟩
    go_wp2_with fail
    refine ((to_hand' l p n c _ HN.out (by omega) HR.out)).mono ?_
    rintro e w1 ⟨p1, c1, rfl, o1, r1, hc1, b⟩
    have Sw1 := Lib.hid b.size
    have L1 := Lib.hid o1.span
    have HB := Lib.hid (chain0 (w := w) (by repeat (first | with_reducible exact Below.refl _ _ | with_reducible exact HB.out | with_reducible apply Below.drew | with_reducible apply bdN | with_reducible refine Below.alloc ?_ (by first | exact Nat.le_refl _ | with_reducible exact HB.out.size | omega | (simp; done) | (simp; omega) | (have := HB.out.size; simp at *; omega)) _ | with_reducible refine Below.setCell ?_ (by first | exact Nat.le_refl _ | with_reducible exact HB.out.size | omega | (simp; done) | (simp; omega) | (have := HB.out.size; simp at *; omega)) _)) b)
    have Zw1 := Lib.hid HB.out.size
    have HR := Lib.hid (Rd.below (by repeat (first | with_reducible exact HR.out | with_reducible apply Rd.drewN | with_reducible apply Rd.drew | with_reducible apply Rd.alloc)) b)
    have O1 := Lib.hid o1
    have R1 := Lib.hid r1
    clear b o1 r1
    go_wp2_with fail
    refine ((HS.out p1 n c1 _ HN.out (by omega) R1.out)).mono ?_
    rintro e w2 ⟨va, rfl, oa, b⟩
    obtain ⟨pa, ca, rfl, hca, ra, _⟩ := oa.form
    rw [HMm.out] at oa hca ⊢
    have Sw2 := Lib.hid b.size
    have La := Lib.hid oa.span
    have HB := Lib.hid (chain0 (w := w) (by repeat (first | with_reducible exact Below.refl _ _ | with_reducible exact HB.out | with_reducible apply Below.drew | with_reducible apply bdN | with_reducible refine Below.alloc ?_ (by first | exact Nat.le_refl _ | with_reducible exact HB.out.size | omega | (simp; done) | (simp; omega) | (have := HB.out.size; simp at *; omega)) _ | with_reducible refine Below.setCell ?_ (by first | exact Nat.le_refl _ | with_reducible exact HB.out.size | omega | (simp; done) | (simp; omega) | (have := HB.out.size; simp at *; omega)) _)) b)
    have Zw2 := Lib.hid HB.out.size
    have HR := Lib.hid (Rd.below (by repeat (first | with_reducible exact HR.out | with_reducible apply Rd.drewN | with_reducible apply Rd.drew | with_reducible apply Rd.alloc)) b)
    have O1 := Lib.hid (Own.below (by repeat (first | with_reducible exact O1.out | with_reducible apply Own.drewN | with_reducible apply Own.drew | with_reducible apply Own.alloc)) b)
    have R1 := Lib.hid (Rd.below (by repeat (first | with_reducible exact R1.out | with_reducible apply Rd.drewN | with_reducible apply Rd.drew | with_reducible apply Rd.alloc)) b)
    have Oa := Lib.hid oa
    have Ra := Lib.hid ra
    clear b oa ra
    go_wp2_with fail
    refine ((to_hand' l p n c _ HN.out (by omega) HR.out)).mono ?_
    rintro e w3 ⟨p2, c2, rfl, o2, r2, hc2, b⟩
    have Sw3 := Lib.hid b.size
    have L2 := Lib.hid o2.span
    have HB := Lib.hid (chain0 (w := w) (by repeat (first | with_reducible exact Below.refl _ _ | with_reducible exact HB.out | with_reducible apply Below.drew | with_reducible apply bdN | with_reducible refine Below.alloc ?_ (by first | exact Nat.le_refl _ | with_reducible exact HB.out.size | omega | (simp; done) | (simp; omega) | (have := HB.out.size; simp at *; omega)) _ | with_reducible refine Below.setCell ?_ (by first | exact Nat.le_refl _ | with_reducible exact HB.out.size | omega | (simp; done) | (simp; omega) | (have := HB.out.size; simp at *; omega)) _)) b)
    have Zw3 := Lib.hid HB.out.size
    have HR := Lib.hid (Rd.below (by repeat (first | with_reducible exact HR.out | with_reducible apply Rd.drewN | with_reducible apply Rd.drew | with_reducible apply Rd.alloc)) b)
    have Oa := Lib.hid (OwnA6.below (by repeat (first | with_reducible exact Oa.out | with_reducible apply OwnA6.drewN | with_reducible apply OwnA6.drew | with_reducible apply OwnA6.alloc)) b)
    have Ra := Lib.hid (Rd.below (by repeat (first | with_reducible exact Ra.out | with_reducible apply Rd.drewN | with_reducible apply Rd.drew | with_reducible apply Rd.alloc)) b)
    have O2 := Lib.hid o2
    have R2 := Lib.hid r2
    clear b o2 r2
    go_wp2_with fail
    refine ((HI.out p2 n c2 _ HN.out (by omega) R2.out)).mono ?_
    rintro e w4 ⟨vb, rfl, ob, b⟩
    obtain ⟨pb, cb, rfl, hcb, rb, _⟩ := ob.form
    rw [HMm.out] at ob hcb ⊢
    have Sw4 := Lib.hid b.size
    have Lb := Lib.hid ob.span
    have HB := Lib.hid (chain0 (w := w) (by repeat (first | with_reducible exact Below.refl _ _ | with_reducible exact HB.out | with_reducible apply Below.drew | with_reducible apply bdN | with_reducible refine Below.alloc ?_ (by first | exact Nat.le_refl _ | with_reducible exact HB.out.size | omega | (simp; done) | (simp; omega) | (have := HB.out.size; simp at *; omega)) _ | with_reducible refine Below.setCell ?_ (by first | exact Nat.le_refl _ | with_reducible exact HB.out.size | omega | (simp; done) | (simp; omega) | (have := HB.out.size; simp at *; omega)) _)) b)
    have Zw4 := Lib.hid HB.out.size
    have HR := Lib.hid (Rd.below (by repeat (first | with_reducible exact HR.out | with_reducible apply Rd.drewN | with_reducible apply Rd.drew | with_reducible apply Rd.alloc)) b)
    have Oa := Lib.hid (OwnA6.below (by repeat (first | with_reducible exact Oa.out | with_reducible apply OwnA6.drewN | with_reducible apply OwnA6.drew | with_reducible apply OwnA6.alloc)) b)
    have Ra := Lib.hid (Rd.below (by repeat (first | with_reducible exact Ra.out | with_reducible apply Rd.drewN | with_reducible apply Rd.drew | with_reducible apply Rd.alloc)) b)
    have O2 := Lib.hid (Own.below (by repeat (first | with_reducible exact O2.out | with_reducible apply Own.drewN | with_reducible apply Own.drew | with_reducible apply Own.alloc)) b)
    have R2 := Lib.hid (Rd.below (by repeat (first | with_reducible exact R2.out | with_reducible apply Rd.drewN | with_reducible apply Rd.drew | with_reducible apply Rd.alloc)) b)
    have Ob := Lib.hid ob
    have Rb := Lib.hid rb
    clear b ob rb
    go_wp2_with fail
    refine ((eq_rowsA6 R pb pa m cb ca _ HMm.out (by have := HL.out; omega) Rb.out Ra.out)).mono ?_
    rintro e w5 ⟨rfl, b⟩
    have Sw5 := Lib.hid b.size
    have HB := Lib.hid (chain0 (w := w) (by repeat (first | with_reducible exact Below.refl _ _ | with_reducible exact HB.out | with_reducible apply Below.drew | with_reducible apply bdN | with_reducible refine Below.alloc ?_ (by first | exact Nat.le_refl _ | with_reducible exact HB.out.size | omega | (simp; done) | (simp; omega) | (have := HB.out.size; simp at *; omega)) _ | with_reducible refine Below.setCell ?_ (by first | exact Nat.le_refl _ | with_reducible exact HB.out.size | omega | (simp; done) | (simp; omega) | (have := HB.out.size; simp at *; omega)) _)) b)
    have HR := Lib.hid (Rd.below (by repeat (first | with_reducible exact HR.out | with_reducible apply Rd.drewN | with_reducible apply Rd.drew | with_reducible apply Rd.alloc)) b)
    have Oa := Lib.hid (OwnA6.below (by repeat (first | with_reducible exact Oa.out | with_reducible apply OwnA6.drewN | with_reducible apply OwnA6.drew | with_reducible apply OwnA6.alloc)) b)
    have Ra := Lib.hid (Rd.below (by repeat (first | with_reducible exact Ra.out | with_reducible apply Rd.drewN | with_reducible apply Rd.drew | with_reducible apply Rd.alloc)) b)
    have O2 := Lib.hid (Own.below (by repeat (first | with_reducible exact O2.out | with_reducible apply Own.drewN | with_reducible apply Own.drew | with_reducible apply Own.alloc)) b)
    have R2 := Lib.hid (Rd.below (by repeat (first | with_reducible exact R2.out | with_reducible apply Rd.drewN | with_reducible apply Rd.drew | with_reducible apply Rd.alloc)) b)
    have Ob := Lib.hid (OwnA6.below (by repeat (first | with_reducible exact Ob.out | with_reducible apply OwnA6.drewN | with_reducible apply OwnA6.drew | with_reducible apply OwnA6.alloc)) b)
    have Rb := Lib.hid (Rd.below (by repeat (first | with_reducible exact Rb.out | with_reducible apply Rd.drewN | with_reducible apply Rd.drew | with_reducible apply Rd.alloc)) b)
    clear b
    go_wp2_with fail
    refine ((to_hand' l p n c _ HN.out (by omega) HR.out)).mono ?_
    rintro e w6 ⟨p3, c3, rfl, o3, r3, hc3, b⟩
    have Sw6 := Lib.hid b.size
    have L3 := Lib.hid o3.span
    have HB := Lib.hid (chain0 (w := w) (by repeat (first | with_reducible exact Below.refl _ _ | with_reducible exact HB.out | with_reducible apply Below.drew | with_reducible apply bdN | with_reducible refine Below.alloc ?_ (by first | exact Nat.le_refl _ | with_reducible exact HB.out.size | omega | (simp; done) | (simp; omega) | (have := HB.out.size; simp at *; omega)) _ | with_reducible refine Below.setCell ?_ (by first | exact Nat.le_refl _ | with_reducible exact HB.out.size | omega | (simp; done) | (simp; omega) | (have := HB.out.size; simp at *; omega)) _)) b)
    have Zw6 := Lib.hid HB.out.size
    have HR := Lib.hid (Rd.below (by repeat (first | with_reducible exact HR.out | with_reducible apply Rd.drewN | with_reducible apply Rd.drew | with_reducible apply Rd.alloc)) b)
    have Oa := Lib.hid (OwnA6.below (by repeat (first | with_reducible exact Oa.out | with_reducible apply OwnA6.drewN | with_reducible apply OwnA6.drew | with_reducible apply OwnA6.alloc)) b)
    have Ra := Lib.hid (Rd.below (by repeat (first | with_reducible exact Ra.out | with_reducible apply Rd.drewN | with_reducible apply Rd.drew | with_reducible apply Rd.alloc)) b)
    have O2 := Lib.hid (Own.below (by repeat (first | with_reducible exact O2.out | with_reducible apply Own.drewN | with_reducible apply Own.drew | with_reducible apply Own.alloc)) b)
    have R2 := Lib.hid (Rd.below (by repeat (first | with_reducible exact R2.out | with_reducible apply Rd.drewN | with_reducible apply Rd.drew | with_reducible apply Rd.alloc)) b)
    have Ob := Lib.hid (OwnA6.below (by repeat (first | with_reducible exact Ob.out | with_reducible apply OwnA6.drewN | with_reducible apply OwnA6.drew | with_reducible apply OwnA6.alloc)) b)
    have Rb := Lib.hid (Rd.below (by repeat (first | with_reducible exact Rb.out | with_reducible apply Rd.drewN | with_reducible apply Rd.drew | with_reducible apply Rd.alloc)) b)
    have O3 := Lib.hid o3
    have R3 := Lib.hid r3
    clear b o3 r3
    go_wp2_with fail
    refine ((eq_hand l p2 p3 n c2 c3 _ HN.out (by omega) R2.out R3.out)).mono ?_
    rintro e w7 ⟨rfl, b⟩
    have Sw7 := Lib.hid b.size
    have HB := Lib.hid (chain0 (w := w) (by repeat (first | with_reducible exact Below.refl _ _ | with_reducible exact HB.out | with_reducible apply Below.drew | with_reducible apply bdN | with_reducible refine Below.alloc ?_ (by first | exact Nat.le_refl _ | with_reducible exact HB.out.size | omega | (simp; done) | (simp; omega) | (have := HB.out.size; simp at *; omega)) _ | with_reducible refine Below.setCell ?_ (by first | exact Nat.le_refl _ | with_reducible exact HB.out.size | omega | (simp; done) | (simp; omega) | (have := HB.out.size; simp at *; omega)) _)) b)
    have HR := Lib.hid (Rd.below (by repeat (first | with_reducible exact HR.out | with_reducible apply Rd.drewN | with_reducible apply Rd.drew | with_reducible apply Rd.alloc)) b)
    have Oa := Lib.hid (OwnA6.below (by repeat (first | with_reducible exact Oa.out | with_reducible apply OwnA6.drewN | with_reducible apply OwnA6.drew | with_reducible apply OwnA6.alloc)) b)
    have Ra := Lib.hid (Rd.below (by repeat (first | with_reducible exact Ra.out | with_reducible apply Rd.drewN | with_reducible apply Rd.drew | with_reducible apply Rd.alloc)) b)
    have O2 := Lib.hid (Own.below (by repeat (first | with_reducible exact O2.out | with_reducible apply Own.drewN | with_reducible apply Own.drew | with_reducible apply Own.alloc)) b)
    have R2 := Lib.hid (Rd.below (by repeat (first | with_reducible exact R2.out | with_reducible apply Rd.drewN | with_reducible apply Rd.drew | with_reducible apply Rd.alloc)) b)
    have Ob := Lib.hid (OwnA6.below (by repeat (first | with_reducible exact Ob.out | with_reducible apply OwnA6.drewN | with_reducible apply OwnA6.drew | with_reducible apply OwnA6.alloc)) b)
    have Rb := Lib.hid (Rd.below (by repeat (first | with_reducible exact Rb.out | with_reducible apply Rd.drewN | with_reducible apply Rd.drew | with_reducible apply Rd.alloc)) b)
    have O3 := Lib.hid (Own.below (by repeat (first | with_reducible exact O3.out | with_reducible apply Own.drewN | with_reducible apply Own.drew | with_reducible apply Own.alloc)) b)
    have R3 := Lib.hid (Rd.below (by repeat (first | with_reducible exact R3.out | with_reducible apply Rd.drewN | with_reducible apply Rd.drew | with_reducible apply Rd.alloc)) b)
    clear b
    go_wp2_with fail
    refine ((mark_hand l (.slice p2 n c2) _ 1 n _ HN.out (by omega) (by have := Sw3.out; have := Sw4.out; have := Sw5.out; have := Sw6.out; have := Sw7.out; omega) O2.out)).mono ?_
    rintro e w8 ⟨rfl, oM, gM⟩
    have Sw8 := Lib.hid gM.size
    have HB := Lib.hid (Below.grown HB.out gM HB.out.size (fun k hk => Nat.le_trans (by have h0 := Zw1.out; have h1 := Sw1.out; have h2 := Zw2.out; have h3 := Sw2.out; have h4 := Zw3.out; have h5 := Sw3.out; have h6 := Zw4.out; have h7 := Sw4.out; have h8 := Sw5.out; have h9 := Zw6.out; have h10 := Sw6.out; have h11 := Sw7.out; first | omega | (simp at *; omega)) (L2.out k hk).1))
    have HR := Lib.hid (Rd.below HR0.out HB.out)
    have Oa := Lib.hid (OwnA6.stay Oa.out gM La.out L2.out (by have h0 := Zw1.out; have h1 := Sw1.out; have h2 := Zw2.out; have h3 := Sw2.out; have h4 := Zw3.out; have h5 := Sw3.out; have h6 := Zw4.out; have h7 := Sw4.out; have h8 := Sw5.out; have h9 := Zw6.out; have h10 := Sw6.out; have h11 := Sw7.out; first | omega | (simp at *; omega)))
    have Ob := Lib.hid (OwnA6.stay Ob.out gM Lb.out L2.out (by have h0 := Zw1.out; have h1 := Sw1.out; have h2 := Zw2.out; have h3 := Sw2.out; have h4 := Zw3.out; have h5 := Sw3.out; have h6 := Zw4.out; have h7 := Sw4.out; have h8 := Sw5.out; have h9 := Zw6.out; have h10 := Sw6.out; have h11 := Sw7.out; first | omega | (simp at *; omega)))
    have O2 := Lib.hid oM
    have Ra := Lib.hid (OwnA6.rd Oa.out)
    have Rb := Lib.hid (OwnA6.rd Ob.out)
    clear oM gM
    go_wp2_with fail
    refine ((eq_rowsA6 R pb pa m cb ca _ HMm.out (by have := HL.out; omega) Rb.out Ra.out)).mono ?_
    rintro e w9 ⟨rfl, b⟩
    have Sw9 := Lib.hid b.size
    have HB := Lib.hid (chain0 (w := w) (by repeat (first | with_reducible exact Below.refl _ _ | with_reducible exact HB.out | with_reducible apply Below.drew | with_reducible apply bdN | with_reducible refine Below.alloc ?_ (by first | exact Nat.le_refl _ | with_reducible exact HB.out.size | omega | (simp; done) | (simp; omega) | (have := HB.out.size; simp at *; omega)) _ | with_reducible refine Below.setCell ?_ (by first | exact Nat.le_refl _ | with_reducible exact HB.out.size | omega | (simp; done) | (simp; omega) | (have := HB.out.size; simp at *; omega)) _)) b)
    have HR := Lib.hid (Rd.below (by repeat (first | with_reducible exact HR.out | with_reducible apply Rd.drewN | with_reducible apply Rd.drew | with_reducible apply Rd.alloc)) b)
    have Oa := Lib.hid (OwnA6.below (by repeat (first | with_reducible exact Oa.out | with_reducible apply OwnA6.drewN | with_reducible apply OwnA6.drew | with_reducible apply OwnA6.alloc)) b)
    have O2 := Lib.hid (Own.below (by repeat (first | with_reducible exact O2.out | with_reducible apply Own.drewN | with_reducible apply Own.drew | with_reducible apply Own.alloc)) b)
    have Ob := Lib.hid (OwnA6.below (by repeat (first | with_reducible exact Ob.out | with_reducible apply OwnA6.drewN | with_reducible apply OwnA6.drew | with_reducible apply OwnA6.alloc)) b)
    have Ra := Lib.hid (Rd.below (by repeat (first | with_reducible exact Ra.out | with_reducible apply Rd.drewN | with_reducible apply Rd.drew | with_reducible apply Rd.alloc)) b)
    have Rb := Lib.hid (Rd.below (by repeat (first | with_reducible exact Rb.out | with_reducible apply Rd.drewN | with_reducible apply Rd.drew | with_reducible apply Rd.alloc)) b)
    clear b
    go_wp2_with fail
    refine ((mark_rowsA6 R (.slice pb m cb) _ 1 m _ HMm.out (by have := HL.out; omega) (by have := Sw4.out; have := Sw5.out; have := Sw6.out; have := Sw7.out; have := Sw8.out; have := Sw9.out; omega) Ob.out)).mono ?_
    rintro e w10 ⟨rfl, oM, gM⟩
    have Sw10 := Lib.hid gM.size
    have HB := Lib.hid (Below.grown HB.out gM HB.out.size (fun k hk => Nat.le_trans (by have h0 := Zw1.out; have h1 := Sw1.out; have h2 := Zw2.out; have h3 := Sw2.out; have h4 := Zw3.out; have h5 := Sw3.out; have h6 := Zw4.out; have h7 := Sw4.out; have h8 := Sw5.out; have h9 := Zw6.out; have h10 := Sw6.out; have h11 := Sw7.out; have h12 := Sw8.out; have h13 := Sw9.out; first | omega | (simp at *; omega)) (Lb.out k hk).1))
    have HR := Lib.hid (Rd.below HR0.out HB.out)
    have Oa := Lib.hid (OwnA6.stay Oa.out gM La.out Lb.out (by have h0 := Zw1.out; have h1 := Sw1.out; have h2 := Zw2.out; have h3 := Sw2.out; have h4 := Zw3.out; have h5 := Sw3.out; have h6 := Zw4.out; have h7 := Sw4.out; have h8 := Sw5.out; have h9 := Zw6.out; have h10 := Sw6.out; have h11 := Sw7.out; have h12 := Sw8.out; have h13 := Sw9.out; first | omega | (simp at *; omega)))
    have Ob := Lib.hid oM
    have Ra := Lib.hid (OwnA6.rd Oa.out)
    clear oM gM
    go_wp2_with fail
    refine ((held_rowsA6 (.slice pb m cb) _ 1 m _ (by have := HL.out; omega) Ob.out)).mono ?_
    rintro e w11 ⟨rfl, b⟩
    have Sw11 := Lib.hid b.size
    have HB := Lib.hid (chain0 (w := w) (by repeat (first | with_reducible exact Below.refl _ _ | with_reducible exact HB.out | with_reducible apply Below.drew | with_reducible apply bdN | with_reducible refine Below.alloc ?_ (by first | exact Nat.le_refl _ | with_reducible exact HB.out.size | omega | (simp; done) | (simp; omega) | (have := HB.out.size; simp at *; omega)) _ | with_reducible refine Below.setCell ?_ (by first | exact Nat.le_refl _ | with_reducible exact HB.out.size | omega | (simp; done) | (simp; omega) | (have := HB.out.size; simp at *; omega)) _)) b)
    have HR := Lib.hid (Rd.below (by repeat (first | with_reducible exact HR.out | with_reducible apply Rd.drewN | with_reducible apply Rd.drew | with_reducible apply Rd.alloc)) b)
    have Oa := Lib.hid (OwnA6.below (by repeat (first | with_reducible exact Oa.out | with_reducible apply OwnA6.drewN | with_reducible apply OwnA6.drew | with_reducible apply OwnA6.alloc)) b)
    have Ob := Lib.hid (OwnA6.below (by repeat (first | with_reducible exact Ob.out | with_reducible apply OwnA6.drewN | with_reducible apply OwnA6.drew | with_reducible apply OwnA6.alloc)) b)
    have Ra := Lib.hid (Rd.below (by repeat (first | with_reducible exact Ra.out | with_reducible apply Rd.drewN | with_reducible apply Rd.drew | with_reducible apply Rd.alloc)) b)
    clear b
    go_wp2_with fail
    refine ((to_hand' l p n c _ HN.out (by omega) HR.out)).mono ?_
    rintro e w12 ⟨p4, c4, rfl, o4, r4, hc4, b⟩
    have Sw12 := Lib.hid b.size
    have L4 := Lib.hid o4.span
    have HB := Lib.hid (chain0 (w := w) (by repeat (first | with_reducible exact Below.refl _ _ | with_reducible exact HB.out | with_reducible apply Below.drew | with_reducible apply bdN | with_reducible refine Below.alloc ?_ (by first | exact Nat.le_refl _ | with_reducible exact HB.out.size | omega | (simp; done) | (simp; omega) | (have := HB.out.size; simp at *; omega)) _ | with_reducible refine Below.setCell ?_ (by first | exact Nat.le_refl _ | with_reducible exact HB.out.size | omega | (simp; done) | (simp; omega) | (have := HB.out.size; simp at *; omega)) _)) b)
    have Zw12 := Lib.hid HB.out.size
    have HR := Lib.hid (Rd.below (by repeat (first | with_reducible exact HR.out | with_reducible apply Rd.drewN | with_reducible apply Rd.drew | with_reducible apply Rd.alloc)) b)
    have Oa := Lib.hid (OwnA6.below (by repeat (first | with_reducible exact Oa.out | with_reducible apply OwnA6.drewN | with_reducible apply OwnA6.drew | with_reducible apply OwnA6.alloc)) b)
    have Ob := Lib.hid (OwnA6.below (by repeat (first | with_reducible exact Ob.out | with_reducible apply OwnA6.drewN | with_reducible apply OwnA6.drew | with_reducible apply OwnA6.alloc)) b)
    have Ra := Lib.hid (Rd.below (by repeat (first | with_reducible exact Ra.out | with_reducible apply Rd.drewN | with_reducible apply Rd.drew | with_reducible apply Rd.alloc)) b)
    have O4 := Lib.hid o4
    have R4 := Lib.hid r4
    clear b o4 r4
    go_wp2_with fail
    refine ((HI.out p4 n c4 _ HN.out (by omega) R4.out)).mono ?_
    rintro e w13 ⟨vc, rfl, oc, b⟩
    obtain ⟨pc, cc, rfl, hcc, rc, _⟩ := oc.form
    rw [HMm.out] at oc hcc ⊢
    have Sw13 := Lib.hid b.size
    have Lc := Lib.hid oc.span
    have HB := Lib.hid (chain0 (w := w) (by repeat (first | with_reducible exact Below.refl _ _ | with_reducible exact HB.out | with_reducible apply Below.drew | with_reducible apply bdN | with_reducible refine Below.alloc ?_ (by first | exact Nat.le_refl _ | with_reducible exact HB.out.size | omega | (simp; done) | (simp; omega) | (have := HB.out.size; simp at *; omega)) _ | with_reducible refine Below.setCell ?_ (by first | exact Nat.le_refl _ | with_reducible exact HB.out.size | omega | (simp; done) | (simp; omega) | (have := HB.out.size; simp at *; omega)) _)) b)
    have Zw13 := Lib.hid HB.out.size
    have HR := Lib.hid (Rd.below (by repeat (first | with_reducible exact HR.out | with_reducible apply Rd.drewN | with_reducible apply Rd.drew | with_reducible apply Rd.alloc)) b)
    have Oa := Lib.hid (OwnA6.below (by repeat (first | with_reducible exact Oa.out | with_reducible apply OwnA6.drewN | with_reducible apply OwnA6.drew | with_reducible apply OwnA6.alloc)) b)
    have Ob := Lib.hid (OwnA6.below (by repeat (first | with_reducible exact Ob.out | with_reducible apply OwnA6.drewN | with_reducible apply OwnA6.drew | with_reducible apply OwnA6.alloc)) b)
    have Ra := Lib.hid (Rd.below (by repeat (first | with_reducible exact Ra.out | with_reducible apply Rd.drewN | with_reducible apply Rd.drew | with_reducible apply Rd.alloc)) b)
    have O4 := Lib.hid (Own.below (by repeat (first | with_reducible exact O4.out | with_reducible apply Own.drewN | with_reducible apply Own.drew | with_reducible apply Own.alloc)) b)
    have R4 := Lib.hid (Rd.below (by repeat (first | with_reducible exact R4.out | with_reducible apply Rd.drewN | with_reducible apply Rd.drew | with_reducible apply Rd.alloc)) b)
    have Oc := Lib.hid oc
    have Rc := Lib.hid rc
    clear b oc rc
    go_wp2_with fail
    refine ((eq_rowsA6 R pc pa m cc ca _ HMm.out (by have := HL.out; omega) Rc.out Ra.out)).mono ?_
    rintro e w14 ⟨rfl, b⟩
    have Sw14 := Lib.hid b.size
    have HB := Lib.hid (chain0 (w := w) (by repeat (first | with_reducible exact Below.refl _ _ | with_reducible exact HB.out | with_reducible apply Below.drew | with_reducible apply bdN | with_reducible refine Below.alloc ?_ (by first | exact Nat.le_refl _ | with_reducible exact HB.out.size | omega | (simp; done) | (simp; omega) | (have := HB.out.size; simp at *; omega)) _ | with_reducible refine Below.setCell ?_ (by first | exact Nat.le_refl _ | with_reducible exact HB.out.size | omega | (simp; done) | (simp; omega) | (have := HB.out.size; simp at *; omega)) _)) b)
    have HR := Lib.hid (Rd.below (by repeat (first | with_reducible exact HR.out | with_reducible apply Rd.drewN | with_reducible apply Rd.drew | with_reducible apply Rd.alloc)) b)
    have Oa := Lib.hid (OwnA6.below (by repeat (first | with_reducible exact Oa.out | with_reducible apply OwnA6.drewN | with_reducible apply OwnA6.drew | with_reducible apply OwnA6.alloc)) b)
    have Ob := Lib.hid (OwnA6.below (by repeat (first | with_reducible exact Ob.out | with_reducible apply OwnA6.drewN | with_reducible apply OwnA6.drew | with_reducible apply OwnA6.alloc)) b)
    have Ra := Lib.hid (Rd.below (by repeat (first | with_reducible exact Ra.out | with_reducible apply Rd.drewN | with_reducible apply Rd.drew | with_reducible apply Rd.alloc)) b)
    have O4 := Lib.hid (Own.below (by repeat (first | with_reducible exact O4.out | with_reducible apply Own.drewN | with_reducible apply Own.drew | with_reducible apply Own.alloc)) b)
    have R4 := Lib.hid (Rd.below (by repeat (first | with_reducible exact R4.out | with_reducible apply Rd.drewN | with_reducible apply Rd.drew | with_reducible apply Rd.alloc)) b)
    have Oc := Lib.hid (OwnA6.below (by repeat (first | with_reducible exact Oc.out | with_reducible apply OwnA6.drewN | with_reducible apply OwnA6.drew | with_reducible apply OwnA6.alloc)) b)
    have Rc := Lib.hid (Rd.below (by repeat (first | with_reducible exact Rc.out | with_reducible apply Rd.drewN | with_reducible apply Rd.drew | with_reducible apply Rd.alloc)) b)
    clear b
    go_wp2_with fail
    refine ((held_rowsA6 (.slice pb m cb) _ 1 m _ (by have := HL.out; omega) Ob.out)).mono ?_
    rintro e w15 ⟨rfl, b⟩
    have Sw15 := Lib.hid b.size
    have HB := Lib.hid (chain0 (w := w) (by repeat (first | with_reducible exact Below.refl _ _ | with_reducible exact HB.out | with_reducible apply Below.drew | with_reducible apply bdN | with_reducible refine Below.alloc ?_ (by first | exact Nat.le_refl _ | with_reducible exact HB.out.size | omega | (simp; done) | (simp; omega) | (have := HB.out.size; simp at *; omega)) _ | with_reducible refine Below.setCell ?_ (by first | exact Nat.le_refl _ | with_reducible exact HB.out.size | omega | (simp; done) | (simp; omega) | (have := HB.out.size; simp at *; omega)) _)) b)
    have HR := Lib.hid (Rd.below (by repeat (first | with_reducible exact HR.out | with_reducible apply Rd.drewN | with_reducible apply Rd.drew | with_reducible apply Rd.alloc)) b)
    have Oa := Lib.hid (OwnA6.below (by repeat (first | with_reducible exact Oa.out | with_reducible apply OwnA6.drewN | with_reducible apply OwnA6.drew | with_reducible apply OwnA6.alloc)) b)
    have Ob := Lib.hid (OwnA6.below (by repeat (first | with_reducible exact Ob.out | with_reducible apply OwnA6.drewN | with_reducible apply OwnA6.drew | with_reducible apply OwnA6.alloc)) b)
    have Ra := Lib.hid (Rd.below (by repeat (first | with_reducible exact Ra.out | with_reducible apply Rd.drewN | with_reducible apply Rd.drew | with_reducible apply Rd.alloc)) b)
    have O4 := Lib.hid (Own.below (by repeat (first | with_reducible exact O4.out | with_reducible apply Own.drewN | with_reducible apply Own.drew | with_reducible apply Own.alloc)) b)
    have R4 := Lib.hid (Rd.below (by repeat (first | with_reducible exact R4.out | with_reducible apply Rd.drewN | with_reducible apply Rd.drew | with_reducible apply Rd.alloc)) b)
    have Oc := Lib.hid (OwnA6.below (by repeat (first | with_reducible exact Oc.out | with_reducible apply OwnA6.drewN | with_reducible apply OwnA6.drew | with_reducible apply OwnA6.alloc)) b)
    have Rc := Lib.hid (Rd.below (by repeat (first | with_reducible exact Rc.out | with_reducible apply Rd.drewN | with_reducible apply Rd.drew | with_reducible apply Rd.alloc)) b)
    clear b
    go_wp2_with fail
    go_ret
    exact ⟨rfl, by repeat (first | with_reducible exact Below.refl _ _ | with_reducible exact HB.out | with_reducible apply Below.drew | with_reducible apply bdN | with_reducible refine Below.alloc ?_ (by first | exact Nat.le_refl _ | with_reducible exact HB.out.size | omega | (simp; done) | (simp; omega) | (have := HB.out.size; simp at *; omega)) _ | with_reducible refine Below.setCell ?_ (by first | exact Nat.le_refl _ | with_reducible exact HB.out.size | omega | (simp; done) | (simp; omega) | (have := HB.out.size; simp at *; omega)) _)⟩
  · have z0 := szLeft_no hs
    go_enter Try.func13, Try.ntmps13
    go_wp2_with fail
    refine (sz_hand p n c 1048576 _ (by omega) (by omega) HM.out).mono ?_
    rintro e w' ⟨rfl, rfl⟩
    go_wp2_with fail
    go_ret
    exact ⟨rfl, by repeat (first | with_reducible exact Below.refl _ _ | with_reducible exact HB.out | with_reducible apply Below.drew | with_reducible apply bdN | with_reducible refine Below.alloc ?_ (by first | exact Nat.le_refl _ | with_reducible exact HB.out.size | omega | (simp; done) | (simp; omega) | (have := HB.out.size; simp at *; omega)) _ | with_reducible refine Below.setCell ?_ (by first | exact Nat.le_refl _ | with_reducible exact HB.out.size | omega | (simp; done) | (simp; omega) | (have := HB.out.size; simp at *; omega)) _)⟩

theorem own : ownKnob Try.prog.godebug = none := by kernel_rfl
theorem laidOut : laidOutB Try.prog = true := by kernel_rfl
set_option maxRecDepth 100000 in
set_option maxHeartbeats 1000000 in
theorem lifted (os : Os) (started : os.Started) (H : Type) (enc : TypeId × Value → H) :
    ReturnsInHanded {} Try.checked os 13 .any (Rows.fnExactGhostsInSpec.pre6 enc Try.prog Try.f13 Rows.fnExactGhostsInRow.domain false) (Rows.fnExactGhostsInSpec.post enc Try.prog Try.f13 false true false false) := by
  refine returnsInHanded_of_change (C := Try.checked) own started (by kernel_rfl) Try.func13
    (ChangeSpec.witness6 (enc := enc) (C := Try.checked) false ⟨#[], #[.slice none 0 0], []⟩ 8 (by kernel_rfl) (by kernel_rfl) (by kernel_rfl) (by kernel_rfl)) ?_
  intro W base args ds gs before hval0 hW hcnd _
  have hval : ∀ (j : Nat) t v, Try.f13.params[j]? = some t → args[j]? = some v → Value.okWide Try.prog W .any base t v := hval0
  have hW' := hW
  obtain ⟨p, q, hA0, hV, rfl, hfz, hnd⟩ := hW
  have hA : DataW.TrodAll enc Try.prog W 0 (fun _ => true) true Try.f13.params.toList args.toList ds p := hA0
  rw [Try.params13] at hA hval
  have hR := fun (W' : World) (hb : Below W.heap.size W W') => frame.still_all laidOut hb _ _ _ _ (by decide +kernel) hA
  obtain ⟨v0, vs0, d0, ds0, p0, q0, hargs, rfl, hp, h0, r0⟩ := trodAll_cons hA
  obtain ⟨rfl, rfl, hpn⟩ := trodAll_nil r0
  obtain rfl : args = #[v0] := by cases args; simp_all
  obtain ⟨rfl, rfl⟩ := trodVars_none hV
  obtain ⟨b0, n0, c0, l0, rfl, w0⟩ := frame.open_hand Try.underlying26 Try.underlying25 Try.underlying3 (by kernel_rfl) (by kernel_rfl) (hval 0 26 v0 rfl rfl) h0
  clear hA0 hval0
  simp only [List.append_nil] at hW'
  refine (walk b0 n0 c0 l0 W w0).mono fun e W' ⟨he, hw⟩ => ?_
  subst he
  exact ⟨_, rfl, _, _, _, [], p, [], hW', trodAll_mk1 (shut_bool Try.underlying4 _), hR W' hw, rfl, hw.frame _, fun h => by cases h⟩

theorem over : Rows.fnExactGhostsInRow.holds Try.pinned (OpenSpec.ofChange Rows.fnExactGhostsInSpec) :=
  OpenClaim.holds_of_wide 13 Try.f13 rfl rfl rfl rfl rfl rfl rfl ⟨rfl, rfl, rfl, rfl, rfl⟩ rfl rfl rfl rfl rfl (by kernel_rfl) Try.func13 (by kernel_rfl)
    (of_decide_eq_true (by kernel_rfl)) (by unfold Func.isWrapper; first | (rw [if_pos (by decide +kernel)]; kernel_rfl) | (rw [if_neg (by decide +kernel)]; exact ⟨rfl, rfl⟩))
    (fun os started H enc _ => lifted os started H enc)

theorem proved : Rows.FnExactGhostsInSaid := over
end Go.Proofs.Ytjmlefcmhjodeaa.lawGhostsIn