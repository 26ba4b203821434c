/- IsPicking and LeftCards: the program's and the model's. -/
import Derived.Test.YtnmlggieabjapaaZr
import Derived.Test.YtnmlggieabjapaaZu
import Derived.Test.YtnmlggieabjapaaZh
import Derived.Test.YtnmlggieabjapaaZe
namespace Go.Proofs.Ytnmlggieabjapaa.parting
open Go.RowKit
open cards maps
set_option linter.unusedVariables false

theorem lines_wf {l : List Cd} {n : Nat} (hn : l.length = n) (hs : sorted l) (hok : l.all Cd.ok = true) (h27 : n ≤ 27) : ∀ x ∈ allL l n, wf3 x := by
  intro x hx
  obtain ⟨i, j, q, h1, h2, h3, _, rfl⟩ := (mem_lines hn hs hok).1 hx
  exact ⟨wf_small (n := (i : Int)) (by omega) (by omega), wf_small (n := (j : Int)) (by omega) (by omega), wf_small (n := (q : Int)) (by omega) (by omega)⟩
noncomputable def ipR (l : List Cd) (ls : List A3) : Bool × Bool := if handB l = true then (pickB (allL l l.length) ls, true) else (false, false)
/-- The cards of the first k places that no line of a list has. -/
def lft (l : List Cd) (ls : List A3) : Nat → List Cd
  | 0 => []
  | k + 1 => lft l ls k ++ (if cov ls (k : Int) = true then [] else match l[k]? with | some x => [x] | none => [])
theorem lft_yes {l : List Cd} {ls : List A3} {k : Nat} (h : cov ls (k : Int) = true) : lft l ls (k + 1) = lft l ls k := by rw [lft, if_pos h, List.append_nil]
theorem lft_no {l : List Cd} {ls : List A3} {k : Nat} {x : Cd} (hx : l[k]? = some x) (h : cov ls (k : Int) = false) : lft l ls (k + 1) = lft l ls k ++ [x] := by rw [lft, if_neg (by simp [h]), hx]
theorem lft_len (l : List Cd) (ls : List A3) : ∀ k : Nat, (lft l ls k).length ≤ k
  | 0 => by simp [lft]
  | k + 1 => by
    have := lft_len l ls k
    rw [lft, List.length_append]
    split
    · simp; omega
    · split <;> simp <;> omega
noncomputable def leftR (l : List Cd) (ls : List A3) : List Cd × Bool := if handB l = true ∧ pickB (allL l l.length) ls = true then (lft l ls l.length, true) else ([], false)
theorem leftR_no {l : List Cd} {ls : List A3} (h : ¬ (handB l = true ∧ pickB (allL l l.length) ls = true)) : leftR l ls = ([], false) := by unfold leftR; rw [if_neg h]
theorem leftR_yes {l : List Cd} {ls : List A3} (h : handB l = true) (h2 : pickB (allL l l.length) ls = true) : leftR l ls = (lft l ls l.length, true) := by unfold leftR; rw [if_pos ⟨h, h2⟩]
theorem leftR_len (l : List Cd) (ls : List A3) : (leftR l ls).1.length ≤ 1000 := by
  unfold leftR
  split
  · rename_i h
    have h1 := (handB_true.1 h.1).1
    have h2 := lft_len l ls l.length
    show (lft l ls l.length).length ≤ _
    omega
  · simp
theorem cov_cnt (ls : List A3) (i : Int) : decide ((withP ls i).length = 0) = !cov ls i := by
  rw [Bool.eq_iff_iff]
  unfold withP cov
  rw [decide_eq_true_eq, List.length_eq_zero_iff, List.filter_eq_nil_iff, Bool.not_eq_true', List.any_eq_false]

set_option maxRecDepth 100000 in
set_option maxHeartbeats 4000000 in
theorem impl_ip (l : List Cd) (ls : List A3) (p q : Option Addr) (n cp k cl : Nat) (w : World) (hn : l.length = n) (hk : ls.length = k) (hl : n ≤ 1000000000) (hkl : k ≤ 1000000000) (hr : Rd w p (flat l)) (hq : Rd w q (A3.flat ls)) (hc : k ≤ cl) (hw : ∀ x ∈ ls, wf3 x) :
    Calls Try.prog 36 #[.slice p n cp, .slice q k cl] w fun e w' => e = .returned (.tuple #[.bool (ipR l ls).1, .bool (ipR l ls).2]) ∧ Below w.heap.size w w' := by
  have HN := Lib.hid hn
  have HK := Lib.hid hk
  have HR := Lib.hid hr
  have HQ := Lib.hid hq
  have HW := Lib.hid hw
  clear hn hk hr hq hw
  go_enter Try.func36, Try.ntmps36
  go_wp2_with fail
  refine (impl_lin l p n cp _ HN.out hl (by repeat (first | with_reducible exact HR.out | with_reducible apply Rd.drewN | with_reducible apply Rd.drew | with_reducible apply Rd.alloc))).mono ?_
  rintro e w1 ⟨u1, rfl, hu, b⟩
  have HU := Lib.hid hu
  have Sw1 := Lib.hid b.size
  have HB := Lib.hid (chain0 (w := w) (by repeat (first | with_reducible exact Below.refl _ _ | with_reducible exact HB.out | with_reducible apply Below.drew | with_reducible apply bdN | with_reducible refine Below.alloc ?_ (by first | exact Nat.le_refl _ | with_reducible exact HB.out.size | omega | (simp; done) | (simp; omega) | (have := HB.out.size; simp at *; omega)) _ | with_reducible refine Below.setCell ?_ (by first | exact Nat.le_refl _ | with_reducible exact HB.out.size | omega | (simp; done) | (simp; omega) | (have := HB.out.size; simp at *; omega)) _)) b)
  have HR := Lib.hid (Rd.below (by repeat (first | with_reducible exact HR.out | with_reducible apply Rd.drewN | with_reducible apply Rd.drew | with_reducible apply Rd.alloc)) b)
  have HQ := Lib.hid (Rd.below (by repeat (first | with_reducible exact HQ.out | with_reducible apply Rd.drewN | with_reducible apply Rd.drew | with_reducible apply Rd.alloc)) b)
  clear b
  clear hu
  cases hh : handB l
  · have HT := Lib.hid (show ipR l ls = (false, false) by unfold ipR; rw [if_neg (by simp [hh])])
    have hl2 : (linR l).2 = false := by unfold linR; rw [if_neg (by simp [hh])]
    rw [hl2]
    clear hl2 hh
    go_wp2_with fail
    go_ret2
    exact ⟨ret_bb (by rw [HT.out]), HB.out⟩
  · have hlr : linR l = (allL l n, true) := by unfold linR; rw [if_pos hh, HN.out]
    have HH := handB_true.1 hh
    have h27 : n ≤ 27 := by have := HH.1; have := HN.out; omega
    have hlen := lines_len HH
    have HWa := Lib.hid (lines_wf HN.out HH.2.2 HH.2.1 h27)
    have HT := Lib.hid (show ipR l ls = ((am (allL l n) ls []).isEmpty, true) by unfold ipR; rw [if_pos hh, HN.out, pick_am (lines_asc l n)])
    rw [HN.out] at hlen
    rw [hlr] at HU ⊢
    obtain ⟨A, hA⟩ : ∃ A, allL l n = A := ⟨_, rfl⟩
    rw [hA] at HU hlen HWa HT
    obtain ⟨pa, ca, rfl, _, ra, _⟩ := HU.out.form
    have HA := Lib.hid ra
    replace hlen := Lib.hid hlen
    obtain ⟨m, hm⟩ : ∃ m, A.length = m := ⟨_, rfl⟩
    have HM := Lib.hid hm
    rw [hm]
    clear hlr hh hA HH ra HU hm
    have HP := Lib.hid (are_picked A ls pa q m ca k cl w1 HM.out HK.out (by have := hlen.out; have := HM.out; omega) hkl hc HA.out HQ.out HWa.out HW.out)
    go_wp2_with fail
    refine (HP.out).mono ?_
    rintro e w2 ⟨rfl, b⟩
    have Sw2 := Lib.hid b.size
    have HB := Lib.hid (chain0 (w := w) (by repeat (first | with_reducible exact Below.refl _ _ | with_reducible exact HB.out | with_reducible apply Below.drew | with_reducible apply bdN | with_reducible refine Below.alloc ?_ (by first | exact Nat.le_refl _ | with_reducible exact HB.out.size | omega | (simp; done) | (simp; omega) | (have := HB.out.size; simp at *; omega)) _ | with_reducible refine Below.setCell ?_ (by first | exact Nat.le_refl _ | with_reducible exact HB.out.size | omega | (simp; done) | (simp; omega) | (have := HB.out.size; simp at *; omega)) _)) b)
    have HR := Lib.hid (Rd.below (by repeat (first | with_reducible exact HR.out | with_reducible apply Rd.drewN | with_reducible apply Rd.drew | with_reducible apply Rd.alloc)) b)
    have HQ := Lib.hid (Rd.below (by repeat (first | with_reducible exact HQ.out | with_reducible apply Rd.drewN | with_reducible apply Rd.drew | with_reducible apply Rd.alloc)) b)
    clear b
    go_wp2_with fail
    go_ret2
    exact ⟨ret_bb (by rw [HT.out]), HB.out⟩

set_option maxRecDepth 100000 in
set_option maxHeartbeats 4000000 in
theorem spec_ip (l : List Cd) (ls : List A3) (p q : Option Addr) (n cp k cl : Nat) (w : World) (hn : l.length = n) (hk : ls.length = k) (hl : n ≤ 1000000000) (hkl : k ≤ 1000000000) (hr : Rd w p (flat l)) (hq : Rd w q (A3.flat ls)) (hc : k ≤ cl) (hw : ∀ x ∈ ls, wf3 x) :
    Calls Try.prog 34 #[.slice p n cp, .slice q k cl] w fun e w' => e = .returned (.tuple #[.bool (ipR l ls).1, .bool (ipR l ls).2]) ∧ Below w.heap.size w w' := by
  have HN := Lib.hid hn
  have HK := Lib.hid hk
  have HR := Lib.hid hr
  have HQ := Lib.hid hq
  have HW := Lib.hid hw
  clear hn hk hr hq hw
  go_enter Try.func34, Try.ntmps34
  go_wp2_with fail
  refine ((l2_hand l p n cp _ HN.out hl (by repeat (first | with_reducible exact HR.out | with_reducible apply Rd.drewN | with_reducible apply Rd.drew | with_reducible apply Rd.alloc)))).mono ?_
  rintro e w1 ⟨rfl, b⟩
  have Sw1 := Lib.hid b.size
  have HB := Lib.hid (chain0 (w := w) (by repeat (first | with_reducible exact Below.refl _ _ | with_reducible exact HB.out | with_reducible apply Below.drew | with_reducible apply bdN | with_reducible refine Below.alloc ?_ (by first | exact Nat.le_refl _ | with_reducible exact HB.out.size | omega | (simp; done) | (simp; omega) | (have := HB.out.size; simp at *; omega)) _ | with_reducible refine Below.setCell ?_ (by first | exact Nat.le_refl _ | with_reducible exact HB.out.size | omega | (simp; done) | (simp; omega) | (have := HB.out.size; simp at *; omega)) _)) b)
  have HR := Lib.hid (Rd.below (by repeat (first | with_reducible exact HR.out | with_reducible apply Rd.drewN | with_reducible apply Rd.drew | with_reducible apply Rd.alloc)) b)
  have HQ := Lib.hid (Rd.below (by repeat (first | with_reducible exact HQ.out | with_reducible apply Rd.drewN | with_reducible apply Rd.drew | with_reducible apply Rd.alloc)) b)
  clear b
  cases hh : handB l
  · have HT := Lib.hid (show ipR l ls = (false, false) by unfold ipR; rw [if_neg (by simp [hh])])
    clear hh
    go_wp2_with fail
    go_ret2
    exact ⟨ret_bb (by rw [HT.out]), HB.out⟩
  · have HH := handB_true.1 hh
    have h27 : n ≤ 27 := by have := HH.1; have := HN.out; omega
    have hlen := lines_len HH
    rw [HN.out] at hlen
    have HT := Lib.hid (show ipR l ls = (pickB (allL l n) ls, true) by unfold ipR; rw [if_pos hh, HN.out])
    have HP := Lib.hid (l7_picking l (allL l n) ls p q n cp k cl w1 HN.out h27 HR.out HH.2.1 HH.2.2 rfl HK.out hkl hc HQ.out (by omega) (lines_wf HN.out HH.2.2 HH.2.1 h27) HW.out)
    obtain ⟨P, hP⟩ : ∃ P, pickB (allL l n) ls = P := ⟨_, rfl⟩
    rw [hP] at HP HT
    clear hh HH hlen hP
    go_wp2_with fail
    refine (HP.out).mono ?_
    rintro e w2 ⟨rfl, b⟩
    have Sw2 := Lib.hid b.size
    have HB := Lib.hid (chain0 (w := w) (by repeat (first | with_reducible exact Below.refl _ _ | with_reducible exact HB.out | with_reducible apply Below.drew | with_reducible apply bdN | with_reducible refine Below.alloc ?_ (by first | exact Nat.le_refl _ | with_reducible exact HB.out.size | omega | (simp; done) | (simp; omega) | (have := HB.out.size; simp at *; omega)) _ | with_reducible refine Below.setCell ?_ (by first | exact Nat.le_refl _ | with_reducible exact HB.out.size | omega | (simp; done) | (simp; omega) | (have := HB.out.size; simp at *; omega)) _)) b)
    have HR := Lib.hid (Rd.below (by repeat (first | with_reducible exact HR.out | with_reducible apply Rd.drewN | with_reducible apply Rd.drew | with_reducible apply Rd.alloc)) b)
    have HQ := Lib.hid (Rd.below (by repeat (first | with_reducible exact HQ.out | with_reducible apply Rd.drewN | with_reducible apply Rd.drew | with_reducible apply Rd.alloc)) b)
    clear b
    go_wp2_with fail
    go_ret2
    exact ⟨ret_bb (by rw [HT.out]), HB.out⟩
end Go.Proofs.Ytnmlggieabjapaa.parting
