/- BlockedCards, FreeCards: the program. -/
import Derived.Test.YtbimbaogjknboaaBk
import Derived.Test.YtbimbaogjknboaaNb
import Derived.Test.YtbimbaogjknboaaNf
namespace Go.Proofs.Ytbimbaogjknboaa.cards
open Go.RowKit
set_option linter.unusedVariables false

/-- A captured map: a block of one cell. -/
def BoxM (w : World) (g : Nat) (v : Value) : Prop := w.heap[g]? = some (.cells #[v] 51)
theorem BoxM.lt {w : World} {g : Nat} {v : Value} (h : BoxM w g v) : g < w.heap.size := (Array.getElem?_eq_some_iff.1 h).1
theorem BoxM.new (w : World) (v : Value) : BoxM (w.alloc (.cells #[v] 51)) w.heap.size v := heap_alloc_new w _
theorem BoxM.below {w w1 : World} {g : Nat} {v : Value} (h : BoxM w g v) (b : Below w.heap.size w w1) : BoxM w1 g v := (b.block g h.lt).trans h
theorem BoxM.alloc {w : World} {g : Nat} {v : Value} (h : BoxM w g v) (o : Obj) : BoxM (w.alloc o) g v := (Below.heap_alloc w o g h.lt).trans h
theorem BoxM.drew {w : World} {g : Nat} {v : Value} (h : BoxM w g v) : BoxM w.drew g v := h
theorem BoxM.drewN {w : World} {g : Nat} {v : Value} (h : BoxM w g v) (n : Nat) : BoxM (w.drewN n) g v := h
theorem BoxM.cell {w : World} {g : Nat} {v : Value} (h : BoxM w g v) : w.cell? ⟨g, 0, none⟩ = some v := (cell_of_row w g 0 _ _ _ h).trans rfl

set_option maxRecDepth 100000 in
set_option maxHeartbeats 2000000 in
theorem blocked_fun (S : Cd → Bool) (c : Cd) (g gb m : Nat) (w : World) (hM : MapB w g m S) (hb : BoxM w gb (.map (some g))) (hc : c.ok = true) :
    Calls Try.prog 59 #[c.val, .pointer (some ⟨gb, 0, none⟩)] w fun e w' => e = .returned (.bool (S c)) ∧ Below w.heap.size w w' := by
  have hg0 := hb.cell
  have hg1 := hb.lt
  have hlk := map_look (hM.alloc c.obj) hc
  clear hM hb
  go_enter Try.func59, Try.ntmps59
  go_wp2_with fail
  go_ret
  exact ⟨rfl, by repeat (first | with_reducible exact Below.refl _ _ | with_reducible exact HB.out | with_reducible apply Below.drew | with_reducible apply bdN | with_reducible refine Below.alloc ?_ (by first | exact Nat.le_refl _ | (simp; done) | (simp; omega) | (have := HB.out.size; simp at *; omega)) _ | with_reducible refine Below.setCell ?_ (by first | exact Nat.le_refl _ | (simp; done) | (simp; omega) | (have := HB.out.size; simp at *; omega)) _)⟩

set_option maxRecDepth 100000 in
set_option maxHeartbeats 2000000 in
theorem free_fun (l : List Cd) (c : Cd) (p : Option Addr) (n cp g gh gb m : Nat) (w : World) (hn : l.length = n) (hl : n ≤ 1000) (hr : Rd w p (flat l)) (hh : BoxH w gh (.slice p n cp)) (hM : MapB w g m (blk l)) (hb : BoxM w gb (.map (some g))) (hok : l.all Cd.ok = true) (hc : c.ok = true) (hs : sorted l) :
    Calls Try.prog 95 #[c.val, .pointer (some ⟨gh, 0, none⟩), .pointer (some ⟨gb, 0, none⟩)] w fun e w' => e = .returned (.bool (fre l c)) ∧ Below w.heap.size w w' := by
  have hg0 := hh.cell
  have hg1 := hh.lt
  have HB0 := Lib.hid hb
  have HM := Lib.hid hM
  have HN := Lib.hid hn
  have HR := Lib.hid hr
  have HS := Lib.hid hs
  have HK := Lib.hid hok
  have HC := Lib.hid hc
  have HF := Lib.hid (fre_blk l c)
  clear hn hr hs hok hc hh hM hb
  go_enter Try.func95, Try.ntmps95
  go_wp2_with fail
  refine ((place_in l c p n cp _ HN.out hl (by repeat (first | with_reducible exact HR.out | with_reducible apply Rd.drewN | with_reducible apply Rd.drew | with_reducible apply Rd.alloc)) HK.out HC.out HS.out)).mono ?_
  rintro e w1 ⟨rfl, b⟩
  have Sw1 := Lib.hid b.size
  have HB := Lib.hid (chain0 (w := w) (by repeat (first | with_reducible exact Below.refl _ _ | with_reducible exact HB.out | with_reducible apply Below.drew | with_reducible apply bdN | with_reducible refine Below.alloc ?_ (by first | exact Nat.le_refl _ | (simp; done) | (simp; omega) | (have := HB.out.size; simp at *; omega)) _ | with_reducible refine Below.setCell ?_ (by first | exact Nat.le_refl _ | (simp; done) | (simp; omega) | (have := HB.out.size; simp at *; omega)) _)) b)
  have HB0 := Lib.hid (BoxM.below (by repeat (first | with_reducible exact HB0.out | with_reducible apply BoxM.drewN | with_reducible apply BoxM.drew | with_reducible apply BoxM.alloc)) b)
  have HM := Lib.hid (MapB.below (by repeat (first | with_reducible exact HM.out | with_reducible apply MapB.drewN | with_reducible apply MapB.drew | with_reducible apply MapB.alloc)) b)
  have K0 : Hid (Box _ (w.heap.size) (c)) := Lib.hid (Box.below (by repeat (first | with_reducible exact K0.out | with_reducible apply Box.drewN | with_reducible apply Box.drew | (with_reducible refine Box.newAt ?_ ?_ <;> first | (simp; done) | rfl) | with_reducible apply Box.alloc)) b)
  try clear k0a k0b k0c k0d k0z
  have k0z := K0.out.lt
  obtain ⟨k0a, k0b, k0c, k0d⟩ := K0.out.cell
  clear b
  have hm0 := HB0.out.cell
  have hlk := map_look HM.out HC.out
  cases ht : there l c
  · cases hq : blk l c
    all_goals
      rw [hq] at hlk
      go_wp2_with fail
      go_ret
      exact ⟨ret_bool (by rw [← HF.out, ht, hq]; rfl), HB.out⟩
  · go_wp2_with fail
    go_ret
    exact ⟨ret_bool (by rw [← HF.out, ht]; rfl), HB.out⟩

set_option maxRecDepth 100000 in
set_option maxHeartbeats 4000000 in
theorem free_numbers (l : List Cd) (p : Option Addr) (n cp : Nat) (w : World) (hn : l.length = n) (hl : n ≤ 27) (hcp : n ≤ cp) (hr : Rd w p (flat l)) (hok : l.all Cd.ok = true) (hs : sorted l) :
    Calls Try.prog 60 #[.slice p n cp] w fun e w' => ∃ u, e = .returned u ∧ OwnI w' w.heap.size u (nums (fre l) 81) ∧ Below w.heap.size w w' := by
  have hmf : ∀ (fn : Fn) (first cap : Array Value) (w : World), (Instr.makeFunc fn first cap).run Try.prog w = .ok (.func fn first cap) w := fun _ _ _ _ => rfl
  have HN := Lib.hid hn
  have HR := Lib.hid hr
  have HS := Lib.hid hs
  have HK := Lib.hid hok
  have HG := Lib.hid (BoxH.new w (.slice p n cp))
  clear hn hr hs hok
  go_enter Try.func60, Try.ntmps60
  go_wp2_with fail
  obtain ⟨W1, hW1⟩ : ∃ W1 : World, W1 = w.alloc (.cells #[.slice p n cp] 22) := ⟨_, rfl⟩
  refine (blocked_by l p n cp _ HN.out hl hcp (by repeat (first | with_reducible exact HR.out | with_reducible apply Rd.drewN | with_reducible apply Rd.drew | with_reducible apply Rd.alloc)) HK.out HS.out).mono ?_
  rintro e w1 ⟨rfl, hm, b⟩
  obtain ⟨g, hg⟩ : ∃ g, (w.alloc (.cells #[.slice p n cp] 22)).heap.size = g := ⟨_, rfl⟩
  rw [hg] at hm ⊢
  have HM := Lib.hid hm
  have Sw1 := Lib.hid b.size
  have HB := Lib.hid (chain0 (w := w) (by repeat (first | with_reducible exact Below.refl _ _ | with_reducible exact HB.out | with_reducible apply Below.drew | with_reducible apply bdN | with_reducible refine Below.alloc ?_ (by first | exact Nat.le_refl _ | (simp; done) | (simp; omega) | (have := HB.out.size; simp at *; omega)) _ | with_reducible refine Below.setCell ?_ (by first | exact Nat.le_refl _ | (simp; done) | (simp; omega) | (have := HB.out.size; simp at *; omega)) _)) b)
  have HR := Lib.hid (Rd.below (by repeat (first | with_reducible exact HR.out | with_reducible apply Rd.drewN | with_reducible apply Rd.drew | with_reducible apply Rd.alloc)) b)
  have HG := Lib.hid (BoxH.below (by repeat (first | with_reducible exact HG.out | with_reducible apply BoxH.drewN | with_reducible apply BoxH.drew | with_reducible apply BoxH.alloc)) b)
  clear b
  clear hm hg hW1
  have HM2 := Lib.hid (HM.out.alloc (.cells #[.map (some g)] 51))
  have HG2 := Lib.hid (HG.out.alloc (.cells #[.map (some g)] 51))
  have HR2 := Lib.hid (HR.out.alloc (.cells #[.map (some g)] 51))
  have HQ2 := Lib.hid (BoxM.new w1 (.map (some g)))
  go_wp2_with fail
  refine (numbers_of_free (fre l) (.pointer (some ⟨w.heap.size, 0, none⟩)) (.pointer (some ⟨w1.heap.size, 0, none⟩)) (w1.alloc (.cells #[.map (some g)] 51)) (fun x w' hx hb => free_fun l x p n cp g w.heap.size w1.heap.size 100000 w' HN.out (by omega) (HR2.out.below hb) (HG2.out.below hb) (HM2.out.below hb) (HQ2.out.below hb) HK.out hx HS.out)).mono ?_
  rintro e w4 ⟨u, rfl, hu, b⟩
  have HZ := Lib.hid (HB.out.alloc HB.out.size (.cells #[.map (some g)] 51))
  have Sw4 := Lib.hid b.size
  have HB := Lib.hid (chain0 (w := w) (by repeat (first | with_reducible exact Below.refl _ _ | with_reducible exact HB.out | with_reducible apply Below.drew | with_reducible apply bdN | with_reducible refine Below.alloc ?_ (by first | exact Nat.le_refl _ | (simp; done) | (simp; omega) | (have := HB.out.size; simp at *; omega)) _ | with_reducible refine Below.setCell ?_ (by first | exact Nat.le_refl _ | (simp; done) | (simp; omega) | (have := HB.out.size; simp at *; omega)) _)) b)
  clear b
  have HU := Lib.hid (hu.base HZ.out.size)
  clear hu
  go_wp2_with fail
  go_ret
  exact ⟨_, rfl, HU.out, HB.out⟩

noncomputable def freeR (l : List Cd) : List Int × Bool := if handB l = true then (nums (fre l) 81, true) else ([], false)
noncomputable def blkR (l : List Cd) : List Int × Bool := if handB l = true then (nums (blk l) 81, true) else ([], false)
theorem freeR_len (l : List Cd) : (freeR l).1.length ≤ 1000 := by
  unfold freeR
  split
  · exact Nat.le_trans (nums_len _ _) (by omega)
  · simp
theorem blkR_len (l : List Cd) : (blkR l).1.length ≤ 1000 := by
  unfold blkR
  split
  · exact Nat.le_trans (nums_len _ _) (by omega)
  · simp

set_option maxRecDepth 100000 in
set_option maxHeartbeats 4000000 in
theorem impl_free (l : List Cd) (p : Option Addr) (n cp : Nat) (w : World) (hn : l.length = n) (hl : n ≤ 1000000000) (hr : Rd w p (flat l)) (hcp : n ≤ cp) :
    Calls Try.prog 27 #[.slice p n cp] w fun e w' => ∃ u, e = .returned (.tuple #[u, .bool (freeR l).2]) ∧ OwnI w' w.heap.size u (freeR l).1 ∧ Below w.heap.size w w' := by
  have HN := Lib.hid hn
  have HR := Lib.hid hr
  clear hn hr
  go_enter Try.func27, Try.ntmps27
  go_wp2_with fail
  refine ((is_hand l p n cp _ HN.out hl (by repeat (first | with_reducible exact HR.out | with_reducible apply Rd.drewN | with_reducible apply Rd.drew | with_reducible apply Rd.alloc)))).mono ?_
  rintro e w1 ⟨rfl, b⟩
  have Sw1 := Lib.hid b.size
  have HB := Lib.hid (chain0 (w := w) (by repeat (first | with_reducible exact Below.refl _ _ | with_reducible exact HB.out | with_reducible apply Below.drew | with_reducible apply bdN | with_reducible refine Below.alloc ?_ (by first | exact Nat.le_refl _ | (simp; done) | (simp; omega) | (have := HB.out.size; simp at *; omega)) _ | with_reducible refine Below.setCell ?_ (by first | exact Nat.le_refl _ | (simp; done) | (simp; omega) | (have := HB.out.size; simp at *; omega)) _)) b)
  have HR := Lib.hid (Rd.below (by repeat (first | with_reducible exact HR.out | with_reducible apply Rd.drewN | with_reducible apply Rd.drew | with_reducible apply Rd.alloc)) b)
  clear b
  cases hh : handB l
  · have HT := Lib.hid (show freeR l = ([], false) by unfold freeR; rw [if_neg (by simp [hh])])
    go_wp2_with fail
    go_ret2
    exact ⟨_, ret_two (by rw [HT.out]), by rw [HT.out]; exact OwnI.empty _ _ HB.out.size, by repeat (first | with_reducible exact Below.refl _ _ | with_reducible exact HB.out | with_reducible apply Below.drew | with_reducible apply bdN | with_reducible refine Below.alloc ?_ (by first | exact Nat.le_refl _ | (simp; done) | (simp; omega) | (have := HB.out.size; simp at *; omega)) _ | with_reducible refine Below.setCell ?_ (by first | exact Nat.le_refl _ | (simp; done) | (simp; omega) | (have := HB.out.size; simp at *; omega)) _)⟩
  · have HT := Lib.hid (show freeR l = (nums (fre l) 81, true) by unfold freeR; rw [if_pos hh])
    have HH := Lib.hid (handB_true.1 hh)
    clear hh
    go_wp2_with fail
    refine (free_numbers l p n cp _ HN.out (by have := HH.out.1; have := HN.out; omega) hcp (by repeat (first | with_reducible exact HR.out | with_reducible apply Rd.drewN | with_reducible apply Rd.drew | with_reducible apply Rd.alloc)) HH.out.2.1 HH.out.2.2).mono ?_
    rintro e w2 ⟨u, rfl, hu, b⟩
    have HZ := Lib.hid HB.out.size
    have Sw2 := Lib.hid b.size
    have HB := Lib.hid (chain0 (w := w) (by repeat (first | with_reducible exact Below.refl _ _ | with_reducible exact HB.out | with_reducible apply Below.drew | with_reducible apply bdN | with_reducible refine Below.alloc ?_ (by first | exact Nat.le_refl _ | (simp; done) | (simp; omega) | (have := HB.out.size; simp at *; omega)) _ | with_reducible refine Below.setCell ?_ (by first | exact Nat.le_refl _ | (simp; done) | (simp; omega) | (have := HB.out.size; simp at *; omega)) _)) b)
    have HR := Lib.hid (Rd.below (by repeat (first | with_reducible exact HR.out | with_reducible apply Rd.drewN | with_reducible apply Rd.drew | with_reducible apply Rd.alloc)) b)
    clear b
    have HU := Lib.hid (hu.base HZ.out)
    clear hu
    go_wp2_with fail
    go_ret2
    exact ⟨_, ret_two (by rw [HT.out]), by rw [HT.out]; exact HU.out, HB.out⟩

set_option maxRecDepth 100000 in
set_option maxHeartbeats 4000000 in
theorem impl_blocked (l : List Cd) (p : Option Addr) (n cp : Nat) (w : World) (hn : l.length = n) (hl : n ≤ 1000000000) (hr : Rd w p (flat l)) (hcp : n ≤ cp) :
    Calls Try.prog 21 #[.slice p n cp] w fun e w' => ∃ u, e = .returned (.tuple #[u, .bool (blkR l).2]) ∧ OwnI w' w.heap.size u (blkR l).1 ∧ Below w.heap.size w w' := by
  have hmf : ∀ (fn : Fn) (first cap : Array Value) (w : World), (Instr.makeFunc fn first cap).run Try.prog w = .ok (.func fn first cap) w := fun _ _ _ _ => rfl
  have HN := Lib.hid hn
  have HR := Lib.hid hr
  clear hn hr
  go_enter Try.func21, Try.ntmps21
  go_wp2_with fail
  refine ((is_hand l p n cp _ HN.out hl (by repeat (first | with_reducible exact HR.out | with_reducible apply Rd.drewN | with_reducible apply Rd.drew | with_reducible apply Rd.alloc)))).mono ?_
  rintro e w1 ⟨rfl, b⟩
  have Sw1 := Lib.hid b.size
  have HB := Lib.hid (chain0 (w := w) (by repeat (first | with_reducible exact Below.refl _ _ | with_reducible exact HB.out | with_reducible apply Below.drew | with_reducible apply bdN | with_reducible refine Below.alloc ?_ (by first | exact Nat.le_refl _ | (simp; done) | (simp; omega) | (have := HB.out.size; simp at *; omega)) _ | with_reducible refine Below.setCell ?_ (by first | exact Nat.le_refl _ | (simp; done) | (simp; omega) | (have := HB.out.size; simp at *; omega)) _)) b)
  have HR := Lib.hid (Rd.below (by repeat (first | with_reducible exact HR.out | with_reducible apply Rd.drewN | with_reducible apply Rd.drew | with_reducible apply Rd.alloc)) b)
  clear b
  cases hh : handB l
  · have HT := Lib.hid (show blkR l = ([], false) by unfold blkR; rw [if_neg (by simp [hh])])
    go_wp2_with fail
    go_ret2
    exact ⟨_, ret_two (by rw [HT.out]), by rw [HT.out]; exact OwnI.empty _ _ HB.out.size, by repeat (first | with_reducible exact Below.refl _ _ | with_reducible exact HB.out | with_reducible apply Below.drew | with_reducible apply bdN | with_reducible refine Below.alloc ?_ (by first | exact Nat.le_refl _ | (simp; done) | (simp; omega) | (have := HB.out.size; simp at *; omega)) _ | with_reducible refine Below.setCell ?_ (by first | exact Nat.le_refl _ | (simp; done) | (simp; omega) | (have := HB.out.size; simp at *; omega)) _)⟩
  · have HT := Lib.hid (show blkR l = (nums (blk l) 81, true) by unfold blkR; rw [if_pos hh])
    have HH := Lib.hid (handB_true.1 hh)
    clear hh
    go_wp2_with fail
    refine (blocked_by l p n cp _ HN.out (by have := HH.out.1; have := HN.out; omega) hcp (by repeat (first | with_reducible exact HR.out | with_reducible apply Rd.drewN | with_reducible apply Rd.drew | with_reducible apply Rd.alloc)) HH.out.2.1 HH.out.2.2).mono ?_
    rintro e w2 ⟨rfl, hm, b⟩
    have HM := Lib.hid hm
    have Sw2 := Lib.hid b.size
    have HB := Lib.hid (chain0 (w := w) (by repeat (first | with_reducible exact Below.refl _ _ | with_reducible exact HB.out | with_reducible apply Below.drew | with_reducible apply bdN | with_reducible refine Below.alloc ?_ (by first | exact Nat.le_refl _ | (simp; done) | (simp; omega) | (have := HB.out.size; simp at *; omega)) _ | with_reducible refine Below.setCell ?_ (by first | exact Nat.le_refl _ | (simp; done) | (simp; omega) | (have := HB.out.size; simp at *; omega)) _)) b)
    clear b
    clear hm
    have HM2 := Lib.hid (HM.out.alloc (.cells #[.map (some w1.heap.size)] 51))
    have HQ2 := Lib.hid (BoxM.new w2 (.map (some w1.heap.size)))
    go_wp2_with fail
    refine (numbers_of_blocked (blk l) (.pointer (some ⟨w2.heap.size, 0, none⟩)) (w2.alloc (.cells #[.map (some w1.heap.size)] 51)) (fun x w' hx hb => blocked_fun (blk l) x w1.heap.size w2.heap.size 100000 w' (HM2.out.below hb) (HQ2.out.below hb) hx)).mono ?_
    rintro e w4 ⟨u, rfl, hu, b⟩
    have HZ := Lib.hid (HB.out.alloc HB.out.size (.cells #[.map (some w1.heap.size)] 51))
    have Sw4 := Lib.hid b.size
    have HB := Lib.hid (chain0 (w := w) (by repeat (first | with_reducible exact Below.refl _ _ | with_reducible exact HB.out | with_reducible apply Below.drew | with_reducible apply bdN | with_reducible refine Below.alloc ?_ (by first | exact Nat.le_refl _ | (simp; done) | (simp; omega) | (have := HB.out.size; simp at *; omega)) _ | with_reducible refine Below.setCell ?_ (by first | exact Nat.le_refl _ | (simp; done) | (simp; omega) | (have := HB.out.size; simp at *; omega)) _)) b)
    clear b
    have HU := Lib.hid (hu.base HZ.out.size)
    clear hu
    go_wp2_with fail
    go_ret2
    exact ⟨_, ret_two (by rw [HT.out]), by rw [HT.out]; exact HU.out, HB.out⟩
end Go.Proofs.Ytbimbaogjknboaa.cards
