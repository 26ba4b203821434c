/- MostDisjoint and FirstPicking: the program's. -/
import Derived.Test.YtnmlggieabjapaaZ2
namespace Go.Proofs.Ytnmlggieabjapaa.parting
open Go.RowKit
open cards maps
set_option linter.unusedVariables false

noncomputable def fpR (l : List Cd) : List A3 × Bool := if poolP l = true then (bestP (allL l l.length), true) else ([], false)
noncomputable def mdR (l : List Cd) : Int × Bool := if poolP l = true then (((bestP (allL l l.length)).length : Int), true) else (0, false)
theorem bestP_len (A : List A3) : (bestP A).length ≤ A.length := by
  unfold bestP
  exact bs_len A [] [] A.length (by simp) (by simp)
theorem fpR_len (l : List Cd) : (fpR l).1.length ≤ 100000000 := by
  unfold fpR
  split
  · rename_i h
    have h1 := lines_len (handB_true.1 (poolP_iff.1 h).1)
    have h2 := bestP_len (allL l l.length)
    show (bestP (allL l l.length)).length ≤ _
    omega
  · simp

set_option maxRecDepth 100000 in
set_option maxHeartbeats 4000000 in
theorem impl_fp (l : List Cd) (p : Option Addr) (n cp : Nat) (w : World) (hn : l.length = n) (hl : n ≤ 1000000000) (hr : Rd w p (flat l)) :
    Calls Try.prog 40 #[.slice p n cp] w fun e w' => ∃ u, e = .returned (.tuple #[u, .bool (fpR l).2]) ∧ OwnA3 w' w.heap.size u (fpR l).1 ∧ Below w.heap.size w w' := by
  have HN := Lib.hid hn
  have HR := Lib.hid hr
  clear hn hr
  go_enter Try.func40, Try.ntmps40
  go_wp2_with fail
  refine ((can_be l p n cp _ HN.out hl (by repeat (first | with_reducible exact HR.out | with_reducible apply Rd.drewN | with_reducible apply Rd.drew | with_reducible apply Rd.alloc)))).mono ?_
  rintro e w1 ⟨rfl, b⟩
  have Sw1 := Lib.hid b.size
  have HB := Lib.hid (chain0 (w := w) (by repeat (first | with_reducible exact Below.refl _ _ | with_reducible exact HB.out | with_reducible apply Below.drew | with_reducible apply bdN | with_reducible refine Below.alloc ?_ (by first | exact Nat.le_refl _ | with_reducible exact HB.out.size | omega | (simp; done) | (simp; omega) | (have := HB.out.size; simp at *; omega)) _ | with_reducible refine Below.setCell ?_ (by first | exact Nat.le_refl _ | with_reducible exact HB.out.size | omega | (simp; done) | (simp; omega) | (have := HB.out.size; simp at *; omega)) _)) b)
  have HR := Lib.hid (Rd.below (by repeat (first | with_reducible exact HR.out | with_reducible apply Rd.drewN | with_reducible apply Rd.drew | with_reducible apply Rd.alloc)) b)
  clear b
  cases hh : poolP l
  · have HT := Lib.hid (show fpR l = ([], false) by unfold fpR; rw [if_neg (by simp [hh])])
    clear hh
    go_wp2_with fail
    go_ret2
    exact ⟨_, ret_two (by rw [HT.out]), by rw [HT.out]; exact OwnA3.empty _ _ HB.out.size, by repeat (first | with_reducible exact Below.refl _ _ | with_reducible exact HB.out | with_reducible apply Below.drew | with_reducible apply bdN | with_reducible refine Below.alloc ?_ (by first | exact Nat.le_refl _ | with_reducible exact HB.out.size | omega | (simp; done) | (simp; omega) | (have := HB.out.size; simp at *; omega)) _ | with_reducible refine Below.setCell ?_ (by first | exact Nat.le_refl _ | with_reducible exact HB.out.size | omega | (simp; done) | (simp; omega) | (have := HB.out.size; simp at *; omega)) _)⟩
  · have HT := Lib.hid (show fpR l = (bestP (allL l n), true) by unfold fpR; rw [if_pos hh, HN.out])
    have HF := Lib.hid (first_picking l p n cp w1 HN.out HR.out (poolP_iff.1 hh).1)
    have HSz := Lib.hid HB.out.size
    clear hh
    go_wp2_with fail
    refine (HF.out).mono ?_
    rintro e w2 ⟨u, rfl, hu, b⟩
    have HU := Lib.hid hu
    have Sw2 := Lib.hid b.size
    have HB := Lib.hid (chain0 (w := w) (by repeat (first | with_reducible exact Below.refl _ _ | with_reducible exact HB.out | with_reducible apply Below.drew | with_reducible apply bdN | with_reducible refine Below.alloc ?_ (by first | exact Nat.le_refl _ | with_reducible exact HB.out.size | omega | (simp; done) | (simp; omega) | (have := HB.out.size; simp at *; omega)) _ | with_reducible refine Below.setCell ?_ (by first | exact Nat.le_refl _ | with_reducible exact HB.out.size | omega | (simp; done) | (simp; omega) | (have := HB.out.size; simp at *; omega)) _)) b)
    have HR := Lib.hid (Rd.below (by repeat (first | with_reducible exact HR.out | with_reducible apply Rd.drewN | with_reducible apply Rd.drew | with_reducible apply Rd.alloc)) b)
    clear b
    clear hu
    go_wp2_with fail
    go_ret2
    exact ⟨_, ret_two (by rw [HT.out]), by rw [HT.out]; exact OwnA3.base HU.out HSz.out, HB.out⟩

set_option maxRecDepth 100000 in
set_option maxHeartbeats 4000000 in
theorem impl_md (l : List Cd) (p : Option Addr) (n cp : Nat) (w : World) (hn : l.length = n) (hl : n ≤ 1000000000) (hr : Rd w p (flat l)) (hcp : n ≤ cp) :
    Calls Try.prog 38 #[.slice p n cp] w fun e w' => e = .returned (.tuple #[.int .i64 (mdR l).1, .bool (mdR l).2]) ∧ Below w.heap.size w w' := by
  have HN := Lib.hid hn
  have HR := Lib.hid hr
  clear hn hr hcp
  go_enter Try.func38, Try.ntmps38
  go_wp2_with fail
  refine ((can_be l p n cp _ HN.out hl (by repeat (first | with_reducible exact HR.out | with_reducible apply Rd.drewN | with_reducible apply Rd.drew | with_reducible apply Rd.alloc)))).mono ?_
  rintro e w1 ⟨rfl, b⟩
  have Sw1 := Lib.hid b.size
  have HB := Lib.hid (chain0 (w := w) (by repeat (first | with_reducible exact Below.refl _ _ | with_reducible exact HB.out | with_reducible apply Below.drew | with_reducible apply bdN | with_reducible refine Below.alloc ?_ (by first | exact Nat.le_refl _ | with_reducible exact HB.out.size | omega | (simp; done) | (simp; omega) | (have := HB.out.size; simp at *; omega)) _ | with_reducible refine Below.setCell ?_ (by first | exact Nat.le_refl _ | with_reducible exact HB.out.size | omega | (simp; done) | (simp; omega) | (have := HB.out.size; simp at *; omega)) _)) b)
  have HR := Lib.hid (Rd.below (by repeat (first | with_reducible exact HR.out | with_reducible apply Rd.drewN | with_reducible apply Rd.drew | with_reducible apply Rd.alloc)) b)
  clear b
  cases hh : poolP l
  · have HT := Lib.hid (show mdR l = (0, false) by unfold mdR; rw [if_neg (by simp [hh])])
    clear hh
    go_wp2_with fail
    go_ret2
    exact ⟨ret_ib (by rw [HT.out]), HB.out⟩
  · have HT := Lib.hid (show mdR l = (((bestP (allL l n)).length : Int), true) by unfold mdR; rw [if_pos hh, HN.out])
    have HF := Lib.hid (first_picking l p n cp w1 HN.out HR.out (poolP_iff.1 hh).1)
    clear hh
    go_wp2_with fail
    refine (HF.out).mono ?_
    rintro e w2 ⟨u, rfl, hu, b⟩
    have Sw2 := Lib.hid b.size
    have HB := Lib.hid (chain0 (w := w) (by repeat (first | with_reducible exact Below.refl _ _ | with_reducible exact HB.out | with_reducible apply Below.drew | with_reducible apply bdN | with_reducible refine Below.alloc ?_ (by first | exact Nat.le_refl _ | with_reducible exact HB.out.size | omega | (simp; done) | (simp; omega) | (have := HB.out.size; simp at *; omega)) _ | with_reducible refine Below.setCell ?_ (by first | exact Nat.le_refl _ | with_reducible exact HB.out.size | omega | (simp; done) | (simp; omega) | (have := HB.out.size; simp at *; omega)) _)) b)
    have HR := Lib.hid (Rd.below (by repeat (first | with_reducible exact HR.out | with_reducible apply Rd.drewN | with_reducible apply Rd.drew | with_reducible apply Rd.alloc)) b)
    clear b
    obtain ⟨pu, cu, rfl, _, _, _⟩ := hu.form
    clear hu
    go_wp2_with fail
    go_ret2
    exact ⟨ret_ib (by rw [HT.out]), HB.out⟩
end Go.Proofs.Ytnmlggieabjapaa.parting
