/- Deals that the law makes: its own functions on them. -/
import Derived.Test.YtjanphcfflahkaaQe
import Derived.Test.YtjanphcfflahkaaRx
namespace Go.Proofs.Ytjanphcfflahkaa.deal
open Go.RowKit
open cards
set_option linter.unusedVariables false

theorem DBox.markedN {w w1 : World} {g : Nat} {x : Dv} {row : Option Nat} (h : DBox w g x) (hg : w.grownBy w1 row) (h2 : ∀ k, row = some k → k ≠ g) : DBox w1 g x :=
  (hg.block g h.lt (fun e => h2 g e.symm rfl)).trans h

set_option maxHeartbeats 400000 in
theorem sz_deal (s nx : Int) (p : Option Addr) (n c : Nat) (left : Int) (w : World) (h0 : 0 ≤ left) (h1 : left ≤ 1048576) (hn : n ≤ maxLen) :
    Calls Try.prog 61 #[dval s nx (.slice p n c), .int .i64 left] w fun e w' => e = .returned (.int .i64 (szLeft n left)) ∧ Below w.heap.size w w' := by
  have hb : szLeft n left = -1 ∨ 0 ≤ szLeft n left := by unfold szLeft; split <;> omega
  obtain ⟨q, hq⟩ : ∃ q, szLeft n left = q := ⟨_, rfl⟩
  have HSz := Lib.hid (fun w => sz_hand p n c left w h0 h1 hn)
  rw [hq] at hb HSz ⊢
  clear hq
  rcases hb with rfl | hb
  · go_enter Try.func61, Try.ntmps61
    go_wp2_with fail
    refine (HSz.out _).mono ?_
    rintro e w' ⟨rfl, rfl⟩
    go_wp2_with fail
    go_ret
    exact ⟨rfl, by repeat (first | with_reducible exact Below.refl _ _ | with_reducible exact HB.out | with_reducible apply Below.drew | with_reducible apply bdN | with_reducible refine Below.alloc ?_ (by first | exact Nat.le_refl _ | with_reducible exact HB.out.size | omega | (simp; done) | (simp; omega) | (have := HB.out.size; simp at *; omega)) _ | with_reducible refine Below.setCell ?_ (by first | exact Nat.le_refl _ | with_reducible exact HB.out.size | omega | (simp; done) | (simp; omega) | (have := HB.out.size; simp at *; omega)) _)⟩
  · go_enter Try.func61, Try.ntmps61
    go_wp2_with fail
    refine (HSz.out _).mono ?_
    rintro e w' ⟨rfl, rfl⟩
    go_wp2_with fail
    go_ret
    exact ⟨rfl, by repeat (first | with_reducible exact Below.refl _ _ | with_reducible exact HB.out | with_reducible apply Below.drew | with_reducible apply bdN | with_reducible refine Below.alloc ?_ (by first | exact Nat.le_refl _ | with_reducible exact HB.out.size | omega | (simp; done) | (simp; omega) | (have := HB.out.size; simp at *; omega)) _ | with_reducible refine Below.setCell ?_ (by first | exact Nat.le_refl _ | with_reducible exact HB.out.size | omega | (simp; done) | (simp; omega) | (have := HB.out.size; simp at *; omega)) _)⟩

set_option maxRecDepth 100000 in
set_option maxHeartbeats 2000000 in
theorem to_deal (s nx : Int) (l : List Cd) (p : Option Addr) (n c : Nat) (w : World) (hn : l.length = n) (hl : n ≤ 1000000000) (hr : Rd w p (flat l)) :
    Calls Try.prog 66 #[dval s nx (.slice p n c)] w fun e w' => ∃ p' c', e = .returned (dval s nx (.slice p' n c')) ∧ Own w' w.heap.size (.slice p' n c') l ∧ Rd w' p' (flat l) ∧ n ≤ c' ∧ Below w.heap.size w w' := by
  have HN := Lib.hid hn
  have HR := Lib.hid hr
  clear hn hr
  go_enter Try.func66, Try.ntmps66
  go_wp2_with fail
  refine (to_hand' l p n c _ HN.out hl (by repeat (first | with_reducible exact HR.out | with_reducible apply Rd.drewN | with_reducible apply Rd.drew | with_reducible apply Rd.alloc))).mono ?_
  rintro e w1 ⟨p', c', rfl, ho, hr, hc, b⟩
  have HO : Hid (Own w1 (w.heap.size + 3) (.slice p' n c') l) := Lib.hid (ho.base (by simp))
  have Sw1 := Lib.hid b.size
  have HB := Lib.hid (chain0 (w := w) (by repeat (first | with_reducible exact Below.refl _ _ | with_reducible exact HB.out | with_reducible apply Below.drew | with_reducible apply bdN | with_reducible refine Below.alloc ?_ (by first | exact Nat.le_refl _ | with_reducible exact HB.out.size | omega | (simp; done) | (simp; omega) | (have := HB.out.size; simp at *; omega)) _ | with_reducible refine Below.setCell ?_ (by first | exact Nat.le_refl _ | with_reducible exact HB.out.size | omega | (simp; done) | (simp; omega) | (have := HB.out.size; simp at *; omega)) _)) b)
  have K1 : Hid (DBox _ (w.heap.size) (⟨42, s, nx, .slice p n c⟩)) := Lib.hid (DBox.below (by repeat (first | with_reducible exact K1.out | with_reducible apply DBox.drewN | with_reducible apply DBox.drew | (with_reducible refine DBox.newAt ?_ ?_ <;> first | (simp; done) | rfl) | with_reducible apply DBox.alloc)) b)
  have K2 : Hid (DBox _ (w.heap.size + 1) (⟨49, 0, 0, .slice none 0 0⟩)) := Lib.hid (DBox.below (by repeat (first | with_reducible exact K2.out | with_reducible apply DBox.drewN | with_reducible apply DBox.drew | (with_reducible refine DBox.newAt ?_ ?_ <;> first | (simp; done) | rfl) | with_reducible apply DBox.alloc)) b)
  have K3 : Hid (DBox _ (w.heap.size + 1 + 1) (⟨49, s, nx, .slice none 0 0⟩)) := Lib.hid (DBox.below (by repeat (first | with_reducible exact K3.out | with_reducible apply DBox.drewN | with_reducible apply DBox.drew | (with_reducible refine DBox.newAt ?_ ?_ <;> first | (simp; done) | rfl) | with_reducible apply DBox.alloc)) b)
  try clear k1a k1b k1c k1d k1z
  have k1z := K1.out.lt
  obtain ⟨k1a, k1b, k1c, k1d⟩ := K1.out.cell
  try clear k2a k2b k2c k2d k2z
  have k2z := K2.out.lt
  obtain ⟨k2a, k2b, k2c, k2d⟩ := K2.out.cell
  try clear k2f
  have k2f := K2.out.frozen
  try clear k3a k3b k3c k3d k3z
  have k3z := K3.out.lt
  obtain ⟨k3a, k3b, k3c, k3d⟩ := K3.out.cell
  try clear k3f
  have k3f := K3.out.frozen
  clear b
  have k3f := K3.out.frozen
  have k2f := K2.out.frozen
  clear ho hr
  go_wp2_with fail
  try simp only [Exit.inBlock, Exit.then]
  refine bodyPost_ret (res_deal Try.results66 rfl ((DBox.farW K2.out (show w.heap.size + 1 ≠ w.heap.size + 1 + 1 by omega) _ _).set_ _ _ _)) rfl ?_
  have HO2 := Lib.hid (Own.far (Own.far (Own.far (Own.far HO.out (p := ⟨w.heap.size + 1 + 1, 2, none⟩) (show w.heap.size + 1 + 1 < w.heap.size + 3 by omega) (.slice p' n c')) (p := ⟨w.heap.size + 1, 0, none⟩) (show w.heap.size + 1 < w.heap.size + 3 by omega) (.int .i64 s)) (p := ⟨w.heap.size + 1, 1, none⟩) (show w.heap.size + 1 < w.heap.size + 3 by omega) (.int .i64 nx)) (p := ⟨w.heap.size + 1, 2, none⟩) (show w.heap.size + 1 < w.heap.size + 3 by omega) (.slice p' n c'))
  exact ⟨_, _, rfl, HO2.out.base (show w.heap.size ≤ w.heap.size + 3 by omega), HO2.out.rd, hc, by repeat (first | with_reducible exact Below.refl _ _ | with_reducible exact HB.out | with_reducible apply Below.drew | with_reducible apply bdN | with_reducible refine Below.alloc ?_ (by first | exact Nat.le_refl _ | with_reducible exact HB.out.size | omega | (simp; done) | (simp; omega) | (have := HB.out.size; simp at *; omega)) _ | with_reducible refine Below.setCell ?_ (by first | exact Nat.le_refl _ | with_reducible exact HB.out.size | omega | (simp; done) | (simp; omega) | (have := HB.out.size; simp at *; omega)) _)⟩

set_option maxRecDepth 100000 in
set_option maxHeartbeats 2000000 in
theorem eq_deal (s nx : Int) (l : List Cd) (p1 p2 : Option Addr) (n c1 c2 : Nat) (w : World) (hn : l.length = n) (hl : n ≤ 1000000000) (hr1 : Rd w p1 (flat l)) (hr2 : Rd w p2 (flat l)) :
    Calls Try.prog 74 #[dval s nx (.slice p1 n c1), dval s nx (.slice p2 n c2)] w fun e w' => e = .returned (.bool true) ∧ Below w.heap.size w w' := by
  have HN := Lib.hid hn
  have HR1 := Lib.hid hr1
  have HR2 := Lib.hid hr2
  clear hn hr1 hr2
  go_enter Try.func74, Try.ntmps74
  go_wp2_with fail
  refine ((eq_hand l p1 p2 n c1 c2 _ HN.out hl (by repeat (first | with_reducible exact HR1.out | with_reducible apply Rd.drewN | with_reducible apply Rd.drew | with_reducible apply Rd.alloc)) (by repeat (first | with_reducible exact HR2.out | with_reducible apply Rd.drewN | with_reducible apply Rd.drew | with_reducible apply Rd.alloc)))).mono ?_
  rintro e w1 ⟨rfl, b⟩
  have Sw1 := Lib.hid b.size
  have HB := Lib.hid (chain0 (w := w) (by repeat (first | with_reducible exact Below.refl _ _ | with_reducible exact HB.out | with_reducible apply Below.drew | with_reducible apply bdN | with_reducible refine Below.alloc ?_ (by first | exact Nat.le_refl _ | with_reducible exact HB.out.size | omega | (simp; done) | (simp; omega) | (have := HB.out.size; simp at *; omega)) _ | with_reducible refine Below.setCell ?_ (by first | exact Nat.le_refl _ | with_reducible exact HB.out.size | omega | (simp; done) | (simp; omega) | (have := HB.out.size; simp at *; omega)) _)) b)
  have HR1 := Lib.hid (Rd.below (by repeat (first | with_reducible exact HR1.out | with_reducible apply Rd.drewN | with_reducible apply Rd.drew | with_reducible apply Rd.alloc)) b)
  have HR2 := Lib.hid (Rd.below (by repeat (first | with_reducible exact HR2.out | with_reducible apply Rd.drewN | with_reducible apply Rd.drew | with_reducible apply Rd.alloc)) b)
  clear b
  go_wp2_with fail
  go_ret
  exact ⟨rfl, by repeat (first | with_reducible exact Below.refl _ _ | with_reducible exact HB.out | with_reducible apply Below.drew | with_reducible apply bdN | with_reducible refine Below.alloc ?_ (by first | exact Nat.le_refl _ | with_reducible exact HB.out.size | omega | (simp; done) | (simp; omega) | (have := HB.out.size; simp at *; omega)) _ | with_reducible refine Below.setCell ?_ (by first | exact Nat.le_refl _ | with_reducible exact HB.out.size | omega | (simp; done) | (simp; omega) | (have := HB.out.size; simp at *; omega)) _)⟩

set_option maxRecDepth 100000 in
set_option maxHeartbeats 2000000 in
theorem mark_deal (s nx : Int) (l : List Cd) (v : Value) (B k0 n : Nat) (w : World) (hn : l.length = n) (hl : k0 + 4 * n ≤ 1000000000) (hB : B ≤ w.heap.size) (ho : Own w B v l) :
    Calls Try.prog 75 #[dval s nx v, .int .i64 k0] w fun e w' => e = .returned (.int .i64 (k0 + 4 * n : Nat)) ∧ Own w' B v (marked k0 n) ∧ w.grownBy w' v.ownBlock := by
  obtain ⟨p, c, rfl, _⟩ := ho.form
  rw [hn] at ho ⊢
  have HN := Lib.hid hn
  have HO := Lib.hid ho
  clear hn ho
  go_enter Try.func75, Try.ntmps75
  go_wp2_with fail
  refine (mark_hand l (.slice p n c) B k0 n _ HN.out hl (by simp; omega) (HO.out.alloc _)).mono ?_
  rintro e w1 ⟨rfl, o1, g1⟩
  have O1 := Lib.hid o1
  have G1 := Lib.hid ((World.grownBy_alloc w _ _).trans g1)
  clear o1 g1
  go_wp2_with fail
  go_ret
  exact ⟨rfl, O1.out, G1.out⟩

end Go.Proofs.Ytjanphcfflahkaa.deal
