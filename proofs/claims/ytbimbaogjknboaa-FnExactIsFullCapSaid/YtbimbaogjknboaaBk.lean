/- The program's map of what a hand blocks. -/
import Derived.Test.YtbimbaogjknboaaBm
import Derived.Test.YtbimbaogjknboaaMp
import Derived.Test.YtbimbaogjknboaaPw
namespace Go.Proofs.Ytbimbaogjknboaa.cards
open Go.RowKit
set_option linter.unusedVariables false

theorem Box.by_ {w w1 : World} {g m : Nat} {x : Cd} (h : Box w g x) (hg : w.grownBy w1 (some m)) (hne : m ≠ g) : Box w1 g x :=
  (hg.block g h.lt (fun e => hne (by injection e with e; exact e.symm))).trans h

set_option maxRecDepth 100000 in
set_option maxHeartbeats 4000000 in
theorem blocked_by (l : List Cd) (p : Option Addr) (n cp : Nat) (w : World) (hn : l.length = n) (hl : n ≤ 27) (hcp : n ≤ cp) (hr : Rd w p (flat l)) (hok : l.all Cd.ok = true) (hs : sorted l) :
    Calls Try.prog 57 #[.slice p n cp] w fun e w' => e = .returned (.map (some w.heap.size)) ∧ MapB w' w.heap.size 100000 (blk l) ∧ Below w.heap.size w w' := by
  have hmm := @run_makeMap Try.prog
  have HN := Lib.hid hn
  have HR0 := Lib.hid hr
  have HS := Lib.hid hs
  have HK := Lib.hid hok
  clear hn hr hs hok
  go_enter Try.func57, Try.ntmps57
  go_wp2_with fail
  go_loopw [4, 5, 7, 13] (fun _ _ _ i wr => ∃ k : Nat, k ≤ n ∧ i = .int .i64 k ∧ Hid (MapB wr w.heap.size (1000 * k) (thirds l k 0)) ∧ Hid (Below w.heap.size w wr)) (fun _ _ _ i _ => n - (intOf i).toNat)
  case atStart => exact ⟨0, Nat.zero_le _, rfl, Lib.hid ((MapB.made w).ext (fun x _ => thirds_zero l x)), Lib.hid (by repeat (first | with_reducible exact Below.refl _ _ | with_reducible exact HB.out | with_reducible apply Below.drew | with_reducible apply bdN | with_reducible refine Below.alloc ?_ (by first | exact Nat.le_refl _ | (simp; done) | (simp; omega) | (have := HB.out.size; simp at *; omega)) _ | with_reducible refine Below.setCell ?_ (by first | exact Nat.le_refl _ | (simp; done) | (simp; omega) | (have := HB.out.size; simp at *; omega)) _))⟩
  case round =>
    obtain ⟨k, hk, rfl, HM, HB⟩ := hrel
    obtain ⟨W0, rfl⟩ : ∃ W0 : World, W0 = wr := ⟨_, rfl⟩
    by_cases hlt : k < n
    · have HR := Lib.hid (HR0.out.below HB.out)
      obtain ⟨b, o, x, rfl, hb, hx, c0, c1, c2, c3⟩ := HR.out.card (k := k) (by rw [HN.out]; exact hlt)
      have HXa := Lib.hid hx
      have HX := Lib.hid (ok_at HK.out hx)
      have m0 : (0 : Int) ≤ (k : Int) := by omega
      have m1 : (k : Int) < (n : Int) := by omega
      have m2 : k ≤ cp := by omega
      have m3 : (k : Int) ≤ (cp : Int) := by omega
      have hgz : w.heap.size ≠ W0.heap.size := by have := HM.out.lt; omega
      clear hx
      go_wp2_with fail
      go_loopw [7, 22] (fun _ i wq => ∃ j : Nat, j ≤ k ∧ i = .int .i64 j ∧ Hid (MapB wq w.heap.size (1000 * k + j) (thirds l k j)) ∧ Hid (Below w.heap.size w wq) ∧ Hid (Box wq W0.heap.size x)) (fun _ i _ => k - (intOf i).toNat)
      case atStart => exact ⟨0, Nat.zero_le _, rfl, Lib.hid (HM.out.alloc _), Lib.hid (by repeat (first | with_reducible exact Below.refl _ _ | with_reducible exact HB.out | with_reducible apply Below.drew | with_reducible apply bdN | with_reducible refine Below.alloc ?_ (by first | exact Nat.le_refl _ | (simp; done) | (simp; omega) | (have := HB.out.size; simp at *; omega)) _ | with_reducible refine Below.setCell ?_ (by first | exact Nat.le_refl _ | (simp; done) | (simp; omega) | (have := HB.out.size; simp at *; omega)) _)), Lib.hid (by repeat (first | with_reducible exact HB.out | with_reducible apply Box.drewN | with_reducible apply Box.drew | (with_reducible refine Box.newAt ?_ ?_ <;> first | (simp; done) | rfl) | with_reducible apply Box.alloc))⟩
      case round =>
        clear HB HM c0 c1 c2 c3 HR
        obtain ⟨j, hj, rfl, HM, HB, K1⟩ := hrel
        obtain ⟨k1a, k1b, k1c, k1d⟩ := K1.out.cell
        have k1z := K1.out.lt
        by_cases hjt : j < k
        · obtain ⟨b2, o2, y, hbo, hb2, hy, d0, d1, d2, d3⟩ := (HR0.out.below HB.out).card (k := j) (by rw [HN.out]; omega)
          injection hbo with hbo
          injection hbo with e1 e2
          subst e1; subst e2
          have HY := Lib.hid (ok_at HK.out hy)
          have HE := Lib.hid (thirds_step hjt HXa.out hy)
          have n0 : (0 : Int) ≤ (j : Int) := by omega
          have n1 : (j : Int) < (k : Int) := by omega
          clear hy
          go_wp2_with fail
          refine ((third_of x y _ HX.out HY.out)).mono ?_
          rintro e w5 ⟨rfl, b⟩
          have Sw5 := Lib.hid b.size
          have HB := Lib.hid (chain0 (w := w) (by repeat (first | with_reducible exact Below.refl _ _ | with_reducible exact HB.out | with_reducible apply Below.drew | with_reducible apply bdN | with_reducible refine Below.alloc ?_ (by first | exact Nat.le_refl _ | (simp; done) | (simp; omega) | (have := HB.out.size; simp at *; omega)) _ | with_reducible refine Below.setCell ?_ (by first | exact Nat.le_refl _ | (simp; done) | (simp; omega) | (have := HB.out.size; simp at *; omega)) _)) b)
          have HM := Lib.hid (MapB.below (by repeat (first | with_reducible exact HM.out | with_reducible apply MapB.drewN | with_reducible apply MapB.drew | with_reducible apply MapB.alloc)) b)
          have K1 : Hid (Box _ (W0.heap.size) (x)) := Lib.hid (Box.below (by repeat (first | with_reducible exact K1.out | with_reducible apply Box.drewN | with_reducible apply Box.drew | (with_reducible refine Box.newAt ?_ ?_ <;> first | (simp; done) | rfl) | with_reducible apply Box.alloc)) b)
          have K2 : Hid (Box _ (wr.heap.size) (y)) := Lib.hid (Box.below (by repeat (first | with_reducible exact K2.out | with_reducible apply Box.drewN | with_reducible apply Box.drew | (with_reducible refine Box.newAt ?_ ?_ <;> first | (simp; done) | rfl) | with_reducible apply Box.alloc)) b)
          try clear k1a k1b k1c k1d k1z
          have k1z := K1.out.lt
          obtain ⟨k1a, k1b, k1c, k1d⟩ := K1.out.cell
          try clear k2a k2b k2c k2d k2z
          have k2z := K2.out.lt
          obtain ⟨k2a, k2b, k2c, k2d⟩ := K2.out.cell
          clear b
          go_wp2_with (at_mapUpdate; refine map_store rfl _ _ _ rfl w.heap.size (1000 * k + j) (thirds l k j) rfl HM.out (by simp only [maxLen]; omega) (third x y) (third_ok _ _) rfl rfl ?_; intro w6 hM6 hG6)
          go_roundw
          case rel => exact ⟨j + 1, by omega, by go_num, Lib.hid (hM6.ext (fun z _ => HE.out z)), Lib.hid (HB.out.grown hG6 HB.out.size (fun q hq => by injection hq with hq; omega)), K1.out.by_ hG6 hgz⟩
          case measure => simp [intOf]; omega
        · obtain rfl : j = k := by omega
          go_wp2_with fail
          go_roundw
          case rel => exact ⟨j + 1, by omega, by go_num, Lib.hid ((HM.out.mono (by omega)).ext (fun z _ => thirds_next l j z)), HB⟩
          case measure => simp [intOf]; omega
    · obtain rfl : k = n := by omega
      go_wp2_with fail
      go_loopw [9, 34] (fun _ i wq => ∃ j : Nat, j ≤ k ∧ i = .int .i64 j ∧ Hid (MapB wq w.heap.size (1000 * k) (left l k j)) ∧ Hid (Below w.heap.size w wq)) (fun _ i _ => k - (intOf i).toNat)
      case atStart => exact ⟨0, Nat.zero_le _, rfl, Lib.hid (HM.out.ext (fun z _ => left_zero l k z)), HB⟩
      case round =>
        clear HB HM
        obtain ⟨j, hj, rfl, HM, HB⟩ := hrel
        by_cases hjt : j < k
        · obtain ⟨b, o, y, rfl, hb2, hy, d0, d1, d2, d3⟩ := (HR0.out.below HB.out).card (k := j) (by rw [HN.out]; omega)
          have HY := Lib.hid (ok_at HK.out hy)
          have HE := Lib.hid (left_step (n := k) hy)
          have n0 : (0 : Int) ≤ (j : Int) := by omega
          have n1 : (j : Int) < (k : Int) := by omega
          have HBa := Lib.hid (HB.out.alloc HB.out.size y.obj)
          clear hy
          go_wp2_with (at_delete; refine map_delete rfl _ _ rfl w.heap.size (1000 * k) (left l k j) rfl (HM.out.alloc _) y HY.out rfl ?_; intro w6 hM6 hG6)
          go_roundw
          case rel => exact ⟨j + 1, by omega, by go_num, Lib.hid (hM6.ext (fun z _ => HE.out z)), Lib.hid (HBa.out.grown hG6 HBa.out.size (fun q hq => by injection hq with hq; omega))⟩
          case measure => simp [intOf]; omega
        · obtain rfl : j = k := by omega
          go_wp2_with fail
          go_ret
          exact ⟨rfl, (HM.out.mono (by omega)).ext (fun z hz => left_all HN.out HS.out HK.out hz), HB.out⟩
end Go.Proofs.Ytbimbaogjknboaa.cards
