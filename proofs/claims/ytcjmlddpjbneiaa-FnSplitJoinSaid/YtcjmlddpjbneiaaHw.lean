/- HandText: the model. -/
import Derived.Test.YtcjmlddpjbneiaaHt
namespace Go.Proofs.Ytcjmlddpjbneiaa.cards
open Go.RowKit
set_option linter.unusedVariables false

theorem ret_sb {a b : ByteArray} {c d : Bool} (h : (a, c) = (b, d)) : Ending.returned (.tuple #[.string a, .bool c]) = .returned (.tuple #[.string b, .bool d]) := by cases h; rfl
theorem tk_snoc {l : List Cd} {k : Nat} {x : Cd} (h : l[k]? = some x) : l.take (k + 1) = l.take k ++ [x] := by
  rw [List.take_add_one, h]; rfl

set_option maxRecDepth 100000 in
set_option maxHeartbeats 4000000 in
theorem l2_write (l : List Cd) (p : Option Addr) (n cp : Nat) (w : World) (hn : l.length = n) (hl : n ≤ 81) (hr : Rd w p (flat l)) (hok : l.all Cd.ok = true) :
    Calls Try.prog 38 #[.slice p n cp] w fun e w' => e = .returned (.string (hT l)) ∧ Below w.heap.size w w' := by
  have HN := Lib.hid hn
  have HR0 := Lib.hid hr
  have HK := Lib.hid hok
  clear hn hr hok
  go_enter Try.func38, Try.ntmps38
  go_wp2_with fail
  go_loopw [3, 4] (fun s i wr => ∃ (k : Nat) (t : ByteArray), k ≤ n ∧ i = .int .i64 k ∧ s = .string t ∧ Hid (t = hT (l.take k)) ∧ Hid (Below w.heap.size w wr)) (fun _ i _ => n - (intOf i).toNat)
  case atStart => exact ⟨0, _, Nat.zero_le _, rfl, rfl, Lib.hid rfl, Lib.hid (Below.refl _ _)⟩
  case round =>
    obtain ⟨k, t, hk, rfl, rfl, HT, HB⟩ := hrel
    by_cases hlt : k < n
    · have HR := Lib.hid (HR0.out.below HB.out)
      obtain ⟨b, o, x, rfl, hb, hx, c0, c1, c2, c3⟩ := HR.out.card (k := k) (by rw [HN.out]; exact hlt)
      have HX := Lib.hid (ok_at HK.out hx)
      have m0 : (0 : Int) ≤ (k : Int) := by omega
      have m1 : (k : Int) < (n : Int) := by omega
      have hsz : t.size ≤ 500 := by
        rw [HT.out]
        have h1 := hT_size (l.take k)
        have h2 : (l.take k).length ≤ k := by rw [List.length_take]; omega
        omega
      have hE := hT_snoc (l.take k) x
      rw [← tk_snoc hx, ← HT.out] at hE
      have hsep : sepT (l.take k) = if 0 < k then ⟨#[32]⟩ else ⟨#[]⟩ := by
        cases k with
        | zero => rfl
        | succ k =>
          have : l.take (k + 1) ≠ [] := by
            intro e
            have := congrArg List.length e
            rw [List.length_take, HN.out] at this
            simp at this; omega
          cases h : l.take (k + 1) with
          | nil => exact absurd h this
          | cons y r => rfl
      rw [hsep] at hE
      have hC := fun w => l2_text x w HX.out
      have ht4 := txt_size x
      obtain ⟨u, hu⟩ : ∃ u, txt x = u := ⟨_, rfl⟩
      rw [hu] at hE hC ht4
      have HC := Lib.hid hC
      have z1 : ¬ 9223372036854775807 < t.size + 1 := by omega
      have z2 : ¬ 9223372036854775807 < t.size + 1 + u.size := by omega
      have z3 : ¬ 9223372036854775807 < t.size + u.size := by omega
      clear hx hC hu hsep hsz ht4
      by_cases h0 : 0 < k
      · rw [if_pos h0] at hE
        have HE := Lib.hid hE
        have d0 : (0 : Int) < (k : Int) := by omega
        clear hE
        go_wp2_with fail
        refine (HC.out _).mono ?_
        rintro e w2 ⟨rfl, b⟩
        have Sw2 := Lib.hid b.size
        have HB := Lib.hid (chain0 (w := w) (by repeat (first | with_reducible exact Below.refl _ _ | with_reducible exact HB.out | with_reducible apply Below.drew | with_reducible apply bdN | with_reducible refine Below.alloc ?_ (by first | exact Nat.le_refl _ | with_reducible exact HB.out.size | omega | (simp; done) | (simp; omega) | (have := HB.out.size; simp at *; omega)) _ | with_reducible refine Below.setCell ?_ (by first | exact Nat.le_refl _ | with_reducible exact HB.out.size | omega | (simp; done) | (simp; omega) | (have := HB.out.size; simp at *; omega)) _)) b)
        have HR := Lib.hid (Rd.below (by repeat (first | with_reducible exact HR.out | with_reducible apply Rd.drewN | with_reducible apply Rd.drew | with_reducible apply Rd.alloc)) b)
        clear b
        go_wp2_with fail
        go_roundw
        case rel => exact ⟨k + 1, _, by omega, by go_num, rfl, Lib.hid HE.out.symm, HB⟩
        case measure => simp [intOf]; omega
      · rw [if_neg h0] at hE
        have HE := Lib.hid hE
        have d0 : ¬ (0 : Int) < (k : Int) := by omega
        clear hE
        go_wp2_with fail
        refine (HC.out _).mono ?_
        rintro e w2 ⟨rfl, b⟩
        have Sw2 := Lib.hid b.size
        have HB := Lib.hid (chain0 (w := w) (by repeat (first | with_reducible exact Below.refl _ _ | with_reducible exact HB.out | with_reducible apply Below.drew | with_reducible apply bdN | with_reducible refine Below.alloc ?_ (by first | exact Nat.le_refl _ | with_reducible exact HB.out.size | omega | (simp; done) | (simp; omega) | (have := HB.out.size; simp at *; omega)) _ | with_reducible refine Below.setCell ?_ (by first | exact Nat.le_refl _ | with_reducible exact HB.out.size | omega | (simp; done) | (simp; omega) | (have := HB.out.size; simp at *; omega)) _)) b)
        have HR := Lib.hid (Rd.below (by repeat (first | with_reducible exact HR.out | with_reducible apply Rd.drewN | with_reducible apply Rd.drew | with_reducible apply Rd.alloc)) b)
        clear b
        go_wp2_with fail
        go_roundw
        case rel => exact ⟨k + 1, _, by omega, by go_num, rfl, Lib.hid (by rw [HE.out]; apply ByteArray.ext; simp), HB⟩
        case measure => simp [intOf]; omega
    · obtain rfl : k = n := by omega
      have HE := Lib.hid (show t = hT l by rw [HT.out, List.take_of_length_le (by rw [HN.out]; exact Nat.le_refl _)])
      go_wp2_with fail
      go_ret
      exact ⟨ret_str HE.out, HB.out⟩

set_option maxRecDepth 100000 in
set_option maxHeartbeats 2000000 in
theorem spec_htext (l : List Cd) (p : Option Addr) (n cp : Nat) (w : World) (hn : l.length = n) (hl : n ≤ 1000000000) (hr : Rd w p (flat l)) (hcp : n ≤ cp) :
    Calls Try.prog 17 #[.slice p n cp] w fun e w' => e = .returned (.tuple #[.string (htR l).1, .bool (htR l).2]) ∧ Below w.heap.size w w' := by
  have HN := Lib.hid hn
  have HR := Lib.hid hr
  clear hn hr
  go_enter Try.func17, Try.ntmps17
  go_wp2_with fail
  refine ((l2_hand l p n cp _ HN.out hl (by repeat (first | with_reducible exact HR.out | with_reducible apply Rd.drewN | with_reducible apply Rd.drew | with_reducible apply Rd.alloc)))).mono ?_
  rintro e w1 ⟨rfl, b⟩
  have Sw1 := Lib.hid b.size
  have HB := Lib.hid (chain0 (w := w) (by repeat (first | with_reducible exact Below.refl _ _ | with_reducible exact HB.out | with_reducible apply Below.drew | with_reducible apply bdN | with_reducible refine Below.alloc ?_ (by first | exact Nat.le_refl _ | with_reducible exact HB.out.size | omega | (simp; done) | (simp; omega) | (have := HB.out.size; simp at *; omega)) _ | with_reducible refine Below.setCell ?_ (by first | exact Nat.le_refl _ | with_reducible exact HB.out.size | omega | (simp; done) | (simp; omega) | (have := HB.out.size; simp at *; omega)) _)) b)
  have HR := Lib.hid (Rd.below (by repeat (first | with_reducible exact HR.out | with_reducible apply Rd.drewN | with_reducible apply Rd.drew | with_reducible apply Rd.alloc)) b)
  clear b
  cases hh : handB l
  · have HT := Lib.hid (show htR l = (⟨#[]⟩, false) by unfold htR; rw [if_neg (by simp [hh])])
    go_wp2_with fail
    go_ret2
    exact ⟨ret_sb (by rw [HT.out]), by repeat (first | with_reducible exact Below.refl _ _ | with_reducible exact HB.out | with_reducible apply Below.drew | with_reducible apply bdN | with_reducible refine Below.alloc ?_ (by first | exact Nat.le_refl _ | with_reducible exact HB.out.size | omega | (simp; done) | (simp; omega) | (have := HB.out.size; simp at *; omega)) _ | with_reducible refine Below.setCell ?_ (by first | exact Nat.le_refl _ | with_reducible exact HB.out.size | omega | (simp; done) | (simp; omega) | (have := HB.out.size; simp at *; omega)) _)⟩
  · have HT := Lib.hid (show htR l = (hT l, true) by unfold htR; rw [if_pos hh])
    have HH := Lib.hid (handB_true.1 hh)
    clear hh
    go_wp2_with fail
    refine ((l2_write l p n cp _ HN.out (by have := HH.out.1; have := HN.out; omega) (by repeat (first | with_reducible exact HR.out | with_reducible apply Rd.drewN | with_reducible apply Rd.drew | with_reducible apply Rd.alloc)) HH.out.2.1)).mono ?_
    rintro e w2 ⟨rfl, b⟩
    have Sw2 := Lib.hid b.size
    have HB := Lib.hid (chain0 (w := w) (by repeat (first | with_reducible exact Below.refl _ _ | with_reducible exact HB.out | with_reducible apply Below.drew | with_reducible apply bdN | with_reducible refine Below.alloc ?_ (by first | exact Nat.le_refl _ | with_reducible exact HB.out.size | omega | (simp; done) | (simp; omega) | (have := HB.out.size; simp at *; omega)) _ | with_reducible refine Below.setCell ?_ (by first | exact Nat.le_refl _ | with_reducible exact HB.out.size | omega | (simp; done) | (simp; omega) | (have := HB.out.size; simp at *; omega)) _)) b)
    have HR := Lib.hid (Rd.below (by repeat (first | with_reducible exact HR.out | with_reducible apply Rd.drewN | with_reducible apply Rd.drew | with_reducible apply Rd.alloc)) b)
    clear b
    go_wp2_with fail
    go_ret2
    exact ⟨ret_sb (by rw [HT.out]), by repeat (first | with_reducible exact Below.refl _ _ | with_reducible exact HB.out | with_reducible apply Below.drew | with_reducible apply bdN | with_reducible refine Below.alloc ?_ (by first | exact Nat.le_refl _ | with_reducible exact HB.out.size | omega | (simp; done) | (simp; omega) | (have := HB.out.size; simp at *; omega)) _ | with_reducible refine Below.setCell ?_ (by first | exact Nat.le_refl _ | with_reducible exact HB.out.size | omega | (simp; done) | (simp; omega) | (have := HB.out.size; simp at *; omega)) _)⟩
end Go.Proofs.Ytcjmlddpjbneiaa.cards
