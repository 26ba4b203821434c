/- Maps: is a list an order, the program's and the model's; blocks that hold a Map. -/
import Derived.Test.YtfbcjcfhdclklaaMa
import Derived.Test.YtfbcjcfhdclklaaMi
import Derived.Deep.DeepCutAuto
import Derived.Deep.RegionHeld3
namespace Go.Proofs.Ytfbcjcfhdclklaa.maps
open Go.RowKit
open cards
set_option linter.unusedVariables false

theorem ordI_no {l : List Int} {n k : Nat} (hn : l.length = n) (hk : k < n) (h : decide ((k : Int) ∈ l) = false) : false = ordI l := by
  symm
  unfold ordI
  rw [List.all_eq_false]
  exact ⟨k, by rw [hn]; exact List.mem_range.2 hk, by rw [h]; simp⟩
theorem ordI_yes {l : List Int} {n : Nat} (hn : l.length = n) (h : ∀ j : Nat, j < n → (j : Int) ∈ l) : true = ordI l := by
  symm
  unfold ordI
  rw [List.all_eq_true]
  exact fun j hj => decide_eq_true (h j (by rw [← hn]; exact List.mem_range.1 hj))
set_option maxRecDepth 100000 in
set_option maxHeartbeats 2000000 in
theorem is_order (l : List Int) (p : Option Addr) (n cp : Nat) (w : World) (hn : l.length = n) (hl : n ≤ 1000000) (hr : Rd w p (ints l)) :
    Calls Try.prog 118 #[.slice p n cp] w fun e w' => e = .returned (.bool (ordI l)) ∧ Below w.heap.size w w' := by
  have HN := Lib.hid hn
  have HR0 := Lib.hid hr
  clear hn hr
  go_enter Try.func118, Try.ntmps118
  go_wp2_with fail
  go_loopw [3, 6] (fun _ i wr => ∃ k : Nat, k ≤ n ∧ i = .int .i64 k ∧ Hid (∀ j : Nat, j < k → (j : Int) ∈ l) ∧ Hid (Below w.heap.size w wr)) (fun _ i _ => n - (intOf i).toNat)
  case atStart => exact ⟨0, Nat.zero_le _, rfl, fun j h => by omega, Lib.hid (by repeat (first | with_reducible exact Below.refl _ _ | with_reducible exact HB.out | with_reducible apply Below.drew | with_reducible apply bdN | with_reducible refine Below.alloc ?_ (by first | exact Nat.le_refl _ | with_reducible exact HB.out.size | omega | (simp; done) | (simp; omega) | (have := HB.out.size; simp at *; omega)) _ | with_reducible refine Below.setCell ?_ (by first | exact Nat.le_refl _ | with_reducible exact HB.out.size | omega | (simp; done) | (simp; omega) | (have := HB.out.size; simp at *; omega)) _))⟩
  case round =>
    obtain ⟨k, hk, rfl, HA, HB⟩ := hrel
    by_cases hlt : k < n
    · have HR := Lib.hid (HR0.out.below HB.out)
      have m0 : (0 : Int) ≤ (k : Int) := by omega
      have m1 : (k : Int) < (n : Int) := by omega
      have HC := Lib.hid (fun (w' : World) (hr : Rd w' p (ints l)) => contains_int l (k : Int) p n cp w' HN.out (by omega) hr)
      cases hd : decide ((k : Int) ∈ l)
      · have HE := Lib.hid (ordI_no HN.out hlt hd)
        rw [hd] at HC
        clear hd
        go_wp2_with fail
        refine ((HC.out _ (by repeat (first | with_reducible exact HR.out | with_reducible apply Rd.drewN | with_reducible apply Rd.drew | with_reducible apply Rd.alloc)))).mono ?_
        rintro e w2 ⟨rfl, b⟩
        have Sw2 := Lib.hid b.size
        have HB := Lib.hid (chain0 (w := w) (by repeat (first | with_reducible exact Below.refl _ _ | with_reducible exact HB.out | with_reducible apply Below.drew | with_reducible apply bdN | with_reducible refine Below.alloc ?_ (by first | exact Nat.le_refl _ | with_reducible exact HB.out.size | omega | (simp; done) | (simp; omega) | (have := HB.out.size; simp at *; omega)) _ | with_reducible refine Below.setCell ?_ (by first | exact Nat.le_refl _ | with_reducible exact HB.out.size | omega | (simp; done) | (simp; omega) | (have := HB.out.size; simp at *; omega)) _)) b)
        have HR := Lib.hid (Rd.below (by repeat (first | with_reducible exact HR.out | with_reducible apply Rd.drewN | with_reducible apply Rd.drew | with_reducible apply Rd.alloc)) b)
        clear b
        go_wp2_with fail
        go_ret
        exact ⟨ret_bool HE.out, HB.out⟩
      · have HA2 := Lib.hid (show ∀ j : Nat, j < k + 1 → (j : Int) ∈ l from fun j hj => by
          rcases Nat.lt_or_ge j k with h | h
          · exact HA.out j h
          · obtain rfl : j = k := by omega
            exact of_decide_eq_true hd)
        rw [hd] at HC
        clear hd
        go_wp2_with fail
        refine ((HC.out _ (by repeat (first | with_reducible exact HR.out | with_reducible apply Rd.drewN | with_reducible apply Rd.drew | with_reducible apply Rd.alloc)))).mono ?_
        rintro e w2 ⟨rfl, b⟩
        have Sw2 := Lib.hid b.size
        have HB := Lib.hid (chain0 (w := w) (by repeat (first | with_reducible exact Below.refl _ _ | with_reducible exact HB.out | with_reducible apply Below.drew | with_reducible apply bdN | with_reducible refine Below.alloc ?_ (by first | exact Nat.le_refl _ | with_reducible exact HB.out.size | omega | (simp; done) | (simp; omega) | (have := HB.out.size; simp at *; omega)) _ | with_reducible refine Below.setCell ?_ (by first | exact Nat.le_refl _ | with_reducible exact HB.out.size | omega | (simp; done) | (simp; omega) | (have := HB.out.size; simp at *; omega)) _)) b)
        have HR := Lib.hid (Rd.below (by repeat (first | with_reducible exact HR.out | with_reducible apply Rd.drewN | with_reducible apply Rd.drew | with_reducible apply Rd.alloc)) b)
        clear b
        go_wp2_with fail
        go_roundw
        case rel => exact ⟨k + 1, by omega, by go_num, HA2, HB⟩
        case measure => simp [intOf]; omega
    · obtain rfl : k = n := by omega
      have HE := Lib.hid (ordI_yes HN.out HA.out)
      go_wp2_with fail
      go_ret
      exact ⟨ret_bool HE.out, HB.out⟩

set_option maxHeartbeats 400000 in
theorem l1_in (s a b : Int) (w : World) :
    Calls Try.prog 52 #[.int .i64 s, .int .i64 a, .int .i64 b] w fun e w' => e = .returned (.bool (decide (a ≤ s ∧ s ≤ b))) ∧ Below w.heap.size w w' := by
  go_enter Try.func52, Try.ntmps52
  go_wp2
  all_goals go_ret
  all_goals exact ⟨ret_bool (by simp; omega), by repeat (first | with_reducible exact Below.refl _ _ | with_reducible exact HB.out | with_reducible apply Below.drew | with_reducible apply bdN | with_reducible refine Below.alloc ?_ (by first | exact Nat.le_refl _ | with_reducible exact HB.out.size | omega | (simp; done) | (simp; omega) | (have := HB.out.size; simp at *; omega)) _ | with_reducible refine Below.setCell ?_ (by first | exact Nat.le_refl _ | with_reducible exact HB.out.size | omega | (simp; done) | (simp; omega) | (have := HB.out.size; simp at *; omega)) _)⟩
theorem mem_no {l : List Int} {n : Nat} {c : Int} (hn : l.length = n) (h : ∀ (j : Nat) y, j < n → l[j]? = some y → y ≠ c) : false = decide (c ∈ l) := by
  symm
  rw [decide_eq_false_iff_not]
  intro hm
  obtain ⟨j, hj⟩ := List.mem_iff_getElem?.1 hm
  exact h j c (by rw [← hn]; exact (List.getElem?_eq_some_iff.1 hj).1) hj rfl
theorem Rd.take {w : World} {p : Option Addr} {l : List Int} (h : Rd w p (ints l)) (k : Nat) : Rd w p (ints (l.take k)) := fun hp => by
  have hl : 0 < (ints l).length := by rw [ints_len] at hp ⊢; rw [List.length_take] at hp; omega
  obtain ⟨b, o, e, hlt, hc⟩ := h hl
  refine ⟨b, o, e, hlt, fun j v hv => hc j v ?_⟩
  have e2 : ints (l.take k) = (ints l).take k := by simp [ints, List.map_take]
  rw [e2, List.getElem?_take] at hv
  split at hv
  · exact hv
  · cases hv
def okAt (l : List Int) (k : Nat) : Bool := decide (0 ≤ l.getD k 0 ∧ l.getD k 0 ≤ (l.length : Int) - 1 ∧ l.getD k 0 ∉ l.take k)
theorem prmI_no {l : List Int} {n k : Nat} (hn : l.length = n) (hk : k < n) (h : okAt l k = false) : false = prmI l := by
  symm
  unfold prmI
  rw [List.all_eq_false]
  exact ⟨k, by rw [hn]; exact List.mem_range.2 hk, by show ¬ okAt l k = true; rw [h]; simp⟩
theorem prmI_yes {l : List Int} {n : Nat} (hn : l.length = n) (h : ∀ j : Nat, j < n → okAt l j = true) : true = prmI l := by
  symm
  unfold prmI
  rw [List.all_eq_true]
  exact fun j hj => h j (by rw [← hn]; exact List.mem_range.1 hj)
theorem getD_of {l : List Int} {k : Nat} {x : Int} (h : l[k]? = some x) : l.getD k 0 = x := by rw [List.getD_eq_getElem?_getD, h]; rfl
end Go.Proofs.Ytfbcjcfhdclklaa.maps
