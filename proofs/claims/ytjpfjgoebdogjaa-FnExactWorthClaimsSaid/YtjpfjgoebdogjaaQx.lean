/- Stuck Deals, Deals that are over, lines of a Deal: the program and the model alike. -/
import Derived.Test.YtjpfjgoebdogjaaQq
import Derived.Test.YtjpfjgoebdogjaaQn
namespace Go.Proofs.Ytjpfjgoebdogjaa.deal
open Go.RowKit
open cards
set_option linter.unusedVariables false

set_option maxRecDepth 100000 in
set_option maxHeartbeats 2000000 in
theorem is_stuck (s nx : Int) (l : List Cd) (p : Option Addr) (n cp : Nat) (w : World) (hn : l.length = n) (hl : n ≤ 81) (hr : Rd w p (flat l)) (hok : l.all Cd.ok = true) :
    Calls Try.prog 78 #[dval s nx (.slice p n cp)] w fun e w' => e = .returned (.bool (stuckD ⟨s, nx, l⟩)) ∧ Below w.heap.size w w' := by
  have HN := Lib.hid hn
  have HR := Lib.hid hr
  have HK := Lib.hid hok
  clear hn hr hok
  go_enter Try.func78, Try.ntmps78
  go_wp2_with fail
  refine (lines_of l p n cp _ HN.out hl (by repeat (first | with_reducible exact HR.out | with_reducible apply Rd.drewN | with_reducible apply Rd.drew | with_reducible apply Rd.alloc)) HK.out).mono ?_
  rintro e w1 ⟨u, rfl, hu, b⟩
  obtain ⟨pu, cu, rfl, _⟩ := hu.form
  obtain ⟨m, hm⟩ : ∃ m, (lines l).length = m := ⟨_, rfl⟩
  have HSt := Lib.hid (show stuckD ⟨s, nx, l⟩ = decide (m = 0) by unfold stuckD; rw [hm])
  rw [hm]
  clear hm hu
  have Sw1 := Lib.hid b.size
  have HB := Lib.hid (chain0 (w := w) (by repeat (first | with_reducible exact Below.refl _ _ | with_reducible exact HB.out | with_reducible apply Below.drew | with_reducible apply bdN | with_reducible refine Below.alloc ?_ (by first | exact Nat.le_refl _ | with_reducible exact HB.out.size | omega | (simp; done) | (simp; omega) | (have := HB.out.size; simp at *; omega)) _)) b)
  clear b
  go_wp2_with fail
  go_ret
  exact ⟨ret_bool (by rw [HSt.out]; rw [Bool.eq_iff_iff]; simp), by repeat (first | with_reducible exact Below.refl _ _ | with_reducible exact HB.out | with_reducible apply Below.drew | with_reducible apply bdN | with_reducible refine Below.alloc ?_ (by first | exact Nat.le_refl _ | with_reducible exact HB.out.size | omega | (simp; done) | (simp; omega) | (have := HB.out.size; simp at *; omega)) _)⟩

set_option maxRecDepth 100000 in
set_option maxHeartbeats 2000000 in
theorem is_over (s nx : Int) (l : List Cd) (p : Option Addr) (n cp : Nat) (w : World) (hn : l.length = n) (hl : n ≤ 81) (hr : Rd w p (flat l)) (hok : l.all Cd.ok = true) :
    Calls Try.prog 79 #[dval s nx (.slice p n cp)] w fun e w' => e = .returned (.bool (overD ⟨s, nx, l⟩)) ∧ Below w.heap.size w w' := by
  have HN := Lib.hid hn
  have HR := Lib.hid hr
  have HK := Lib.hid hok

  clear hn hr hok
  by_cases h81 : nx = 81
  · subst h81
    go_enter Try.func79, Try.ntmps79
    have HO := Lib.hid (show overD ⟨s, 81, l⟩ = stuckD ⟨s, 81, l⟩ by unfold overD; simp)
    go_wp2_with fail
    refine ((is_stuck s 81 l p n cp _ HN.out hl (by repeat (first | with_reducible exact HR.out | with_reducible apply Rd.drewN | with_reducible apply Rd.drew | with_reducible apply Rd.alloc)) HK.out)).mono ?_
    rintro e w1 ⟨rfl, b⟩
    have Sw1 := Lib.hid b.size
    have HB := Lib.hid (chain0 (w := w) (by repeat (first | with_reducible exact Below.refl _ _ | with_reducible exact HB.out | with_reducible apply Below.drew | with_reducible apply bdN | with_reducible refine Below.alloc ?_ (by first | exact Nat.le_refl _ | with_reducible exact HB.out.size | omega | (simp; done) | (simp; omega) | (have := HB.out.size; simp at *; omega)) _)) b)
    have HR := Lib.hid (Rd.below (by repeat (first | with_reducible exact HR.out | with_reducible apply Rd.drewN | with_reducible apply Rd.drew | with_reducible apply Rd.alloc)) b)
    have K1 : Hid (DBox _ (w.heap.size) (⟨31, s, 81, .slice p n cp⟩)) := Lib.hid (DBox.below (by repeat (first | with_reducible exact K1.out | with_reducible apply DBox.drewN | with_reducible apply DBox.drew | (with_reducible refine DBox.newAt ?_ ?_ <;> first | (simp; done) | rfl) | with_reducible apply DBox.alloc)) b)
    try clear k1a k1b k1c k1d k1z
    have k1z := K1.out.lt
    obtain ⟨k1a, k1b, k1c, k1d⟩ := K1.out.cell
    clear b
    go_wp2_with fail
    go_ret
    exact ⟨ret_bool HO.out.symm, by repeat (first | with_reducible exact Below.refl _ _ | with_reducible exact HB.out | with_reducible apply Below.drew | with_reducible apply bdN | with_reducible refine Below.alloc ?_ (by first | exact Nat.le_refl _ | with_reducible exact HB.out.size | omega | (simp; done) | (simp; omega) | (have := HB.out.size; simp at *; omega)) _)⟩
  · have HO := Lib.hid (show overD ⟨s, nx, l⟩ = false by unfold overD; simp [h81])
    have hd2 : (nx == 81) = false := by simp [h81]
    clear h81
    go_enter Try.func79, Try.ntmps79
    go_wp2_with fail
    go_ret
    exact ⟨ret_bool HO.out.symm, by repeat (first | with_reducible exact Below.refl _ _ | with_reducible exact HB.out | with_reducible apply Below.drew | with_reducible apply bdN | with_reducible refine Below.alloc ?_ (by first | exact Nat.le_refl _ | with_reducible exact HB.out.size | omega | (simp; done) | (simp; omega) | (have := HB.out.size; simp at *; omega)) _)⟩

noncomputable def dlR (d : Dl) : List A3 × Bool := if d.ok = true then (lines d.l, true) else ([], false)
theorem dlR_len (d : Dl) : (dlR d).1.length ≤ 10000 := by
  unfold dlR; split
  · rename_i h
    have h1 := lines_len d.l
    have h2 : d.l.length * d.l.length ≤ 81 * 81 := Nat.mul_le_mul (Dl.ok_iff.1 h).len81 (Dl.ok_iff.1 h).len81
    show (lines d.l).length ≤ _
    omega
  · simp
noncomputable def stR (d : Dl) : Bool × Bool := if d.ok = true then (stuckD d, true) else (false, false)
noncomputable def ovR (d : Dl) : Bool × Bool := if d.ok = true then (overD d, true) else (false, false)

end Go.Proofs.Ytjpfjgoebdogjaa.deal
