/- JoinStrings: the program, whole. -/
import Derived.Test.YtcjmlddpjbneiaaSy
namespace Go.Proofs.Ytcjmlddpjbneiaa.cards
open Go.RowKit
set_option linter.unusedVariables false

set_option maxRecDepth 100000 in
set_option maxHeartbeats 4000000 in
theorem impl_join (l : List ByteArray) (sep : ByteArray) (p : Option Addr) (n c : Nat) (w : World) (hn : l.length = n) (hl : n ≤ 1048576) (hs : ∀ x ∈ l, x.size ≤ 1048576) (hp : sep.size ≤ 1048576) (hr : Rd w p (tx l)) (hcp : n ≤ c) :
    Calls Try.prog 11 #[.slice p n c, .string sep] w fun e w' => e = .returned (.tuple #[.string (jsR l sep).1, .bool (jsR l sep).2]) ∧ Below w.heap.size w w' := by
  have HN := Lib.hid hn
  have HR := Lib.hid hr
  have HS := Lib.hid hs
  by_cases h0 : n = 0
  · have HT := Lib.hid (jsR_no (l := l) (s := sep) (by omega))
    subst h0
    clear hn hr hs hp
    go_enter Try.func11, Try.ntmps11
    go_wp2_with fail
    go_ret2
    exact ⟨ret_sb (by rw [HT.out]), Below.refl _ _⟩
  · have hn0 : ((n : Int) == 0) = false := beq_eq_false_iff_ne.2 (by omega)
    by_cases h1 : sep.size = 1
    · obtain ⟨y, rfl⟩ := one_byte h1
      have HT := Lib.hid (jsR_yes (l := l) (b := y) (by omega))
      have hb : y.toNat < 256 := y.toNat_lt
      have hpos : 0 < n := by omega
      have HFt := Lib.hid (fun w => fits_joined l p n c w HN.out hpos hl HS.out)
      have HAn := Lib.hid (fun w => any_byte l y p n c w HN.out hl HS.out)
      clear hn hr hs hp h1 h0
      by_cases hsz : sm l + l.length ≤ 4001
      · have HSz := Lib.hid hsz
        rw [decide_eq_true hsz] at HFt
        clear hsz
        cases ha : anyB l y
        · rw [ha] at HAn
          have HA := Lib.hid ha
          have HT2 := Lib.hid (jR_yes HA.out HSz.out)
          clear ha
          go_enter Try.func11, Try.ntmps11
          go_wp2_with fail
          refine (HFt.out _ (by repeat (first | with_reducible exact HR.out | with_reducible apply Rd.drewN | with_reducible apply Rd.drew | with_reducible apply Rd.alloc))).mono ?_
          rintro e w1 ⟨rfl, b⟩
          have Sw1 := Lib.hid b.size
          have HB := Lib.hid (chain0 (w := w) (by repeat (first | with_reducible exact Below.refl _ _ | with_reducible exact HB.out | with_reducible apply Below.drew | with_reducible apply bdN | with_reducible refine Below.alloc ?_ (by first | exact Nat.le_refl _ | with_reducible exact HB.out.size | omega | (simp; done) | (simp; omega) | (have := HB.out.size; simp at *; omega)) _ | with_reducible refine Below.setCell ?_ (by first | exact Nat.le_refl _ | with_reducible exact HB.out.size | omega | (simp; done) | (simp; omega) | (have := HB.out.size; simp at *; omega)) _)) b)
          have HR := Lib.hid (Rd.below (by repeat (first | with_reducible exact HR.out | with_reducible apply Rd.drewN | with_reducible apply Rd.drew | with_reducible apply Rd.alloc)) b)
          clear b
          go_wp2_with fail
          refine (HAn.out _ (by repeat (first | with_reducible exact HR.out | with_reducible apply Rd.drewN | with_reducible apply Rd.drew | with_reducible apply Rd.alloc))).mono ?_
          rintro e w2 ⟨rfl, b⟩
          have Sw2 := Lib.hid b.size
          have HB := Lib.hid (chain0 (w := w) (by repeat (first | with_reducible exact Below.refl _ _ | with_reducible exact HB.out | with_reducible apply Below.drew | with_reducible apply bdN | with_reducible refine Below.alloc ?_ (by first | exact Nat.le_refl _ | with_reducible exact HB.out.size | omega | (simp; done) | (simp; omega) | (have := HB.out.size; simp at *; omega)) _ | with_reducible refine Below.setCell ?_ (by first | exact Nat.le_refl _ | with_reducible exact HB.out.size | omega | (simp; done) | (simp; omega) | (have := HB.out.size; simp at *; omega)) _)) b)
          have HR := Lib.hid (Rd.below (by repeat (first | with_reducible exact HR.out | with_reducible apply Rd.drewN | with_reducible apply Rd.drew | with_reducible apply Rd.alloc)) b)
          clear b
          go_wp2_with fail
          refine (join_strs l y p n c _ HN.out hpos hl hcp HSz.out (by repeat (first | with_reducible exact HR.out | with_reducible apply Rd.drewN | with_reducible apply Rd.drew | with_reducible apply Rd.alloc))).mono ?_
          rintro e w3 ⟨rfl, b⟩
          have Sw3 := Lib.hid b.size
          have HB := Lib.hid (chain0 (w := w) (by repeat (first | with_reducible exact Below.refl _ _ | with_reducible exact HB.out | with_reducible apply Below.drew | with_reducible apply bdN | with_reducible refine Below.alloc ?_ (by first | exact Nat.le_refl _ | with_reducible exact HB.out.size | omega | (simp; done) | (simp; omega) | (have := HB.out.size; simp at *; omega)) _ | with_reducible refine Below.setCell ?_ (by first | exact Nat.le_refl _ | with_reducible exact HB.out.size | omega | (simp; done) | (simp; omega) | (have := HB.out.size; simp at *; omega)) _)) b)
          have HR := Lib.hid (Rd.below (by repeat (first | with_reducible exact HR.out | with_reducible apply Rd.drewN | with_reducible apply Rd.drew | with_reducible apply Rd.alloc)) b)
          clear b
          go_wp2_with fail
          go_ret2
          exact ⟨ret_sb (by rw [HT.out, HT2.out]), HB.out⟩
        · rw [ha] at HAn
          have HA := Lib.hid ha
          have HT2 := Lib.hid (jR_no (l := l) (b := y) (by rw [HA.out]; simp))
          clear ha
          go_enter Try.func11, Try.ntmps11
          go_wp2_with fail
          refine (HFt.out _ (by repeat (first | with_reducible exact HR.out | with_reducible apply Rd.drewN | with_reducible apply Rd.drew | with_reducible apply Rd.alloc))).mono ?_
          rintro e w1 ⟨rfl, b⟩
          have Sw1 := Lib.hid b.size
          have HB := Lib.hid (chain0 (w := w) (by repeat (first | with_reducible exact Below.refl _ _ | with_reducible exact HB.out | with_reducible apply Below.drew | with_reducible apply bdN | with_reducible refine Below.alloc ?_ (by first | exact Nat.le_refl _ | with_reducible exact HB.out.size | omega | (simp; done) | (simp; omega) | (have := HB.out.size; simp at *; omega)) _ | with_reducible refine Below.setCell ?_ (by first | exact Nat.le_refl _ | with_reducible exact HB.out.size | omega | (simp; done) | (simp; omega) | (have := HB.out.size; simp at *; omega)) _)) b)
          have HR := Lib.hid (Rd.below (by repeat (first | with_reducible exact HR.out | with_reducible apply Rd.drewN | with_reducible apply Rd.drew | with_reducible apply Rd.alloc)) b)
          clear b
          go_wp2_with fail
          refine (HAn.out _ (by repeat (first | with_reducible exact HR.out | with_reducible apply Rd.drewN | with_reducible apply Rd.drew | with_reducible apply Rd.alloc))).mono ?_
          rintro e w2 ⟨rfl, b⟩
          have Sw2 := Lib.hid b.size
          have HB := Lib.hid (chain0 (w := w) (by repeat (first | with_reducible exact Below.refl _ _ | with_reducible exact HB.out | with_reducible apply Below.drew | with_reducible apply bdN | with_reducible refine Below.alloc ?_ (by first | exact Nat.le_refl _ | with_reducible exact HB.out.size | omega | (simp; done) | (simp; omega) | (have := HB.out.size; simp at *; omega)) _ | with_reducible refine Below.setCell ?_ (by first | exact Nat.le_refl _ | with_reducible exact HB.out.size | omega | (simp; done) | (simp; omega) | (have := HB.out.size; simp at *; omega)) _)) b)
          have HR := Lib.hid (Rd.below (by repeat (first | with_reducible exact HR.out | with_reducible apply Rd.drewN | with_reducible apply Rd.drew | with_reducible apply Rd.alloc)) b)
          clear b
          go_wp2_with fail
          go_ret2
          exact ⟨ret_sb (by rw [HT.out, HT2.out]), HB.out⟩
      · have HT2 := Lib.hid (jR_no (l := l) (b := y) (fun h => hsz h.2))
        rw [decide_eq_false hsz] at HFt
        clear hsz
        go_enter Try.func11, Try.ntmps11
        go_wp2_with fail
        refine (HFt.out _ (by repeat (first | with_reducible exact HR.out | with_reducible apply Rd.drewN | with_reducible apply Rd.drew | with_reducible apply Rd.alloc))).mono ?_
        rintro e w1 ⟨rfl, b⟩
        have Sw1 := Lib.hid b.size
        have HB := Lib.hid (chain0 (w := w) (by repeat (first | with_reducible exact Below.refl _ _ | with_reducible exact HB.out | with_reducible apply Below.drew | with_reducible apply bdN | with_reducible refine Below.alloc ?_ (by first | exact Nat.le_refl _ | with_reducible exact HB.out.size | omega | (simp; done) | (simp; omega) | (have := HB.out.size; simp at *; omega)) _ | with_reducible refine Below.setCell ?_ (by first | exact Nat.le_refl _ | with_reducible exact HB.out.size | omega | (simp; done) | (simp; omega) | (have := HB.out.size; simp at *; omega)) _)) b)
        have HR := Lib.hid (Rd.below (by repeat (first | with_reducible exact HR.out | with_reducible apply Rd.drewN | with_reducible apply Rd.drew | with_reducible apply Rd.alloc)) b)
        clear b
        go_wp2_with fail
        go_ret2
        exact ⟨ret_sb (by rw [HT.out, HT2.out]), HB.out⟩
    · have HT := Lib.hid (jsR_no (l := l) (s := sep) (by omega))
      have hb : ((sep.size : Int) != 1) = true := by simp; omega
      clear hn hr hs h1 h0
      go_enter Try.func11, Try.ntmps11
      go_wp2_with fail
      go_ret2
      exact ⟨ret_sb (by rw [HT.out]), Below.refl _ _⟩
end Go.Proofs.Ytcjmlddpjbneiaa.cards
