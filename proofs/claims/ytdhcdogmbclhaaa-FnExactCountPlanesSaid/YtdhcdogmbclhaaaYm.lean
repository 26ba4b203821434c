/- CountPlanes: the program's. -/
import Derived.Test.YtdhcdogmbclhaaaYl
import Derived.Test.YtdhcdogmbclhaaaYk
import Derived.Test.YtdhcdogmbclhaaaYe
import Derived.Test.YtdhcdogmbclhaaaYf
namespace Go.Proofs.Ytdhcdogmbclhaaa.planes
open Go.RowKit
open cards reg
set_option linter.unusedVariables false

/-- Are all cards of the second list in the first one? -/
def allIn (l P : List Cd) : Bool := P.all fun x => there l x
theorem allIn_iff {l P : List Cd} (hs : sorted l) (hok : l.all Cd.ok = true) (hp : P.all Cd.ok = true) : allIn l P = true ↔ ∀ x, x ∈ P → x ∈ l := by
  unfold allIn
  rw [List.all_eq_true]
  constructor
  · intro h x hx; exact (there_mem hs hok (List.all_eq_true.1 hp x hx)).1 (h x hx)
  · intro h x hx; exact (there_mem hs hok (List.all_eq_true.1 hp x hx)).2 (h x hx)

set_option maxRecDepth 100000 in
set_option maxHeartbeats 4000000 in
theorem has_all (l P : List Cd) (p q : Option Addr) (n cp m cq : Nat) (w : World) (hn : l.length = n) (hl : n ≤ 1000) (hm : P.length = m) (hml : m ≤ 1000) (hr : Rd w p (flat l)) (hq : Rd w q (flat P)) (hok : l.all Cd.ok = true) (hs : sorted l) (hpk : P.all Cd.ok = true) :
    Calls Try.prog 61 #[.slice p n cp, .slice q m cq] w fun e w' => e = .returned (.bool (allIn l P)) ∧ Below w.heap.size w w' := by
  have HP := Lib.hid (fun x w hr hx => place_in l x p n cp w hn hl hr hok hx hs)
  have HR := Lib.hid hr
  have HQ := Lib.hid hq
  have HM := Lib.hid hm
  have HPk := Lib.hid hpk
  clear hn hr hq hm hok hs hpk
  go_enter Try.func61, Try.ntmps61
  go_wp2_with fail
  go_loopw [6, 7, 8, 11] (fun _ _ _ iv wr => ∃ k : Nat, k ≤ m ∧ iv = .int .i64 k ∧ Hid (allIn l (P.take k) = true) ∧ Hid (Below w.heap.size w wr)) (fun _ _ _ iv _ => m - (intOf iv).toNat)
  case atStart => exact ⟨0, Nat.zero_le _, rfl, Lib.hid rfl, Below.refl _ _⟩
  case round =>
    obtain ⟨k, hk, rfl, HA, HB⟩ := hrel
    by_cases hlt : k < m
    · obtain ⟨b, o, x, rfl, hb, hx, c0, c1, c2, c3⟩ := (HQ.out.below HB.out).card (k := k) (by rw [HM.out]; exact hlt)
      have HX := Lib.hid (ok_at HPk.out hx)
      have HE : Hid (allIn l (P.take (k + 1)) = there l x) := Lib.hid (by unfold allIn; rw [take_snoc hx, List.all_append]; have h := HA.out; unfold allIn at h; rw [h]; simp)
      have HF : Hid (there l x = false → allIn l P = false) := Lib.hid (fun h => by unfold allIn; rw [List.all_eq_false]; exact ⟨x, List.mem_of_getElem? hx, by simp [h]⟩)
      have m0 : (0 : Int) ≤ (k : Int) := by omega
      have m1 : (k : Int) < (m : Int) := by omega
      clear hx
      have HRx := Lib.hid (Rd.alloc (HR.out.below HB.out) x.obj)
      have HB2 := Lib.hid (HB.out.alloc HB.out.size x.obj)
      have hc := fun w hr => HP.out x w hr HX.out
      cases ht : there l x
      · have HF2 := Lib.hid (HF.out ht)
        rw [ht] at hc
        have HC := Lib.hid hc
        clear hc ht HF HE
        go_wp2_with fail
        refine (HC.out _ HRx.out).mono ?_
        rintro e w2 ⟨rfl, b2⟩
        have HB3 := Lib.hid (chain0 HB2.out b2)
        clear b2
        go_wp2_with fail
        go_ret
        exact ⟨ret_bool HF2.out.symm, HB3.out⟩
      · have HE2 := Lib.hid (HE.out.trans ht)
        rw [ht] at hc
        have HC := Lib.hid hc
        clear hc ht HF HE
        go_wp2_with fail
        refine (HC.out _ HRx.out).mono ?_
        rintro e w2 ⟨rfl, b2⟩
        have HB3 := Lib.hid (chain0 HB2.out b2)
        clear b2
        go_wp2_with fail
        go_roundw
        case rel => exact ⟨k + 1, by omega, by go_num, HE2, HB3⟩
        case measure => simp [intOf]; omega
    · obtain rfl : k = m := by omega
      have HT : Hid (allIn l P = true) := Lib.hid (by have h := HA.out; rw [show P.take k = P by rw [← HM.out, List.take_length]] at h; exact h)
      go_wp2_with fail
      go_ret
      exact ⟨ret_bool HT.out.symm, HB.out⟩
end Go.Proofs.Ytdhcdogmbclhaaa.planes
