/- IsDeal, in the form in which the law asks for it. -/
import Derived.Test.YtghjopgbhodccaaQq
namespace Go.Proofs.Ytghjopgbhodccaa.deal
open Go.RowKit
open cards
set_option linter.unusedVariables false

set_option maxRecDepth 100000 in
set_option maxHeartbeats 2000000 in
theorem spec_isd (s nx : Int) (l : List Cd) (p : Option Addr) (n cp B : Nat) (w : World) (hn : l.length = n) (hl : n ≤ 1000000000) (ho : Own w B (.slice p n cp) l) (hw : ∀ x ∈ l, wfc x) :
    Calls Try.prog 29 #[dval s nx (.slice p n cp)] w fun e w' => e = .returned (.bool (Dl.mk s nx l).ok) ∧ Below w.heap.size w w' := by
  have HN := Lib.hid hn
  have hr := ho.rd
  have hcp : n ≤ cp := by obtain ⟨p', c', e, h, _⟩ := ho.form; injection e with e1 e2 e3; omega
  have HR := Lib.hid hr
  have HW := Lib.hid hw
  clear hn hr hw ho
  go_enter Try.func29, Try.ntmps29
  go_wp2_with fail
  refine ((l4_deal s nx l p n cp _ HN.out hl hcp (by repeat (first | with_reducible exact HR.out | with_reducible apply Rd.drewN | with_reducible apply Rd.drew | with_reducible apply Rd.alloc)) HW.out)).mono ?_
  rintro e w1 ⟨rfl, b⟩
  have Sw1 := Lib.hid b.size
  have HB := Lib.hid (chain0 (w := w) (by repeat (first | with_reducible exact Below.refl _ _ | with_reducible exact HB.out | with_reducible apply Below.drew | with_reducible apply bdN | with_reducible refine Below.alloc ?_ (by first | exact Nat.le_refl _ | (simp; done) | (simp; omega) | (have := HB.out.size; simp at *; omega)) _ | with_reducible refine Below.setCell ?_ (by first | exact Nat.le_refl _ | (simp; done) | (simp; omega) | (have := HB.out.size; simp at *; omega)) _)) b)
  have HR := Lib.hid (Rd.below (by repeat (first | with_reducible exact HR.out | with_reducible apply Rd.drewN | with_reducible apply Rd.drew | with_reducible apply Rd.alloc)) b)
  have K1 : Hid (DBox _ (w.heap.size) (⟨31, s, nx, .slice p n cp⟩)) := Lib.hid (DBox.below (by repeat (first | with_reducible exact K1.out | with_reducible apply DBox.drewN | with_reducible apply DBox.drew | (with_reducible refine DBox.newAt ?_ ?_ <;> first | (simp; done) | rfl) | with_reducible apply DBox.alloc)) b)
  try clear k1a k1b k1c k1d k1z
  have k1z := K1.out.lt
  obtain ⟨k1a, k1b, k1c, k1d⟩ := K1.out.cell
  clear b
  go_wp2_with fail
  go_ret
  exact ⟨rfl, by repeat (first | with_reducible exact Below.refl _ _ | with_reducible exact HB.out | with_reducible apply Below.drew | with_reducible apply bdN | with_reducible refine Below.alloc ?_ (by first | exact Nat.le_refl _ | (simp; done) | (simp; omega) | (have := HB.out.size; simp at *; omega)) _ | with_reducible refine Below.setCell ?_ (by first | exact Nat.le_refl _ | (simp; done) | (simp; omega) | (have := HB.out.size; simp at *; omega)) _)⟩
theorem impl_isd (s nx : Int) (l : List Cd) (p : Option Addr) (n cp B : Nat) (w : World) (hn : l.length = n) (hl : n ≤ 1000000000) (ho : Own w B (.slice p n cp) l) (hw : ∀ x ∈ l, wfc x) :
    Calls Try.prog 31 #[dval s nx (.slice p n cp)] w fun e w' => e = .returned (.bool (Dl.mk s nx l).ok) ∧ Below w.heap.size w w' :=
  impl_isdeal s nx l p n cp w hn hl (by obtain ⟨p', c', e, h, _⟩ := ho.form; injection e with e1 e2 e3; omega) ho.rd hw
end Go.Proofs.Ytghjopgbhodccaa.deal
