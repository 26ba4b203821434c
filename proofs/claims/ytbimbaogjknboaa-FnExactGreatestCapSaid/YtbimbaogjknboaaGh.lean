/- GreatestCap and FewestDrops: the program. -/
import Derived.Test.YtbimbaogjknboaaGi
import Derived.Test.YtbimbaogjknboaaNo
namespace Go.Proofs.Ytbimbaogjknboaa.cards
open Go.RowKit
set_option linter.unusedVariables false

noncomputable def poolB (l : List Cd) : Bool := handB l && decide (l.length ≤ 15)
noncomputable def bestR (l : List Cd) : List Int × Bool := if poolB l = true then (best l, true) else ([], false)
noncomputable def fewR (l : List Cd) : Int × Bool := if poolB l = true then ((l.length : Int) - (best l).length, true) else (0, false)
theorem poolB_iff {l : List Cd} : poolB l = true ↔ handB l = true ∧ l.length ≤ 15 := by unfold poolB; simp
theorem bestR_len (l : List Cd) : (bestR l).1.length ≤ 1000 := by
  unfold bestR
  split
  · rename_i h
    have h1 := (poolB_iff.1 h).2
    have h2 := best_len l
    show (best l).length ≤ _
    omega
  · simp

set_option maxRecDepth 100000 in
set_option maxHeartbeats 2000000 in
theorem is_pool (l : List Cd) (p : Option Addr) (n cp : Nat) (w : World) (hn : l.length = n) (hl : n ≤ 1000000000) (hr : Rd w p (flat l)) :
    Calls Try.prog 73 #[.slice p n cp] w fun e w' => e = .returned (.bool (poolB l)) ∧ Below w.heap.size w w' := by
  have HN := Lib.hid hn
  have HR := Lib.hid hr
  clear hn hr
  by_cases h : n ≤ 15
  · have hd : (n : Int) ≤ 15 := by omega
    have HP := Lib.hid (show poolB l = handB l by unfold poolB; rw [HN.out, decide_eq_true h]; simp)
    go_enter Try.func73, Try.ntmps73
    go_wp2_with fail
    refine ((is_hand l p n cp _ HN.out hl (by repeat (first | with_reducible exact HR.out | with_reducible apply Rd.drewN | with_reducible apply Rd.drew | with_reducible apply Rd.alloc)))).mono ?_
    rintro e w1 ⟨rfl, b⟩
    have Sw1 := Lib.hid b.size
    have HB := Lib.hid (chain0 (w := w) (by repeat (first | with_reducible exact Below.refl _ _ | with_reducible exact HB.out | with_reducible apply Below.drew | with_reducible apply bdN | with_reducible refine Below.alloc ?_ (by first | exact Nat.le_refl _ | (simp; done) | (simp; omega) | (have := HB.out.size; simp at *; omega)) _ | with_reducible refine Below.setCell ?_ (by first | exact Nat.le_refl _ | (simp; done) | (simp; omega) | (have := HB.out.size; simp at *; omega)) _)) b)
    have HR := Lib.hid (Rd.below (by repeat (first | with_reducible exact HR.out | with_reducible apply Rd.drewN | with_reducible apply Rd.drew | with_reducible apply Rd.alloc)) b)
    clear b
    go_wp2_with fail
    go_ret
    exact ⟨ret_bool (by rw [HP.out]), by repeat (first | with_reducible exact Below.refl _ _ | with_reducible exact HB.out | with_reducible apply Below.drew | with_reducible apply bdN | with_reducible refine Below.alloc ?_ (by first | exact Nat.le_refl _ | (simp; done) | (simp; omega) | (have := HB.out.size; simp at *; omega)) _ | with_reducible refine Below.setCell ?_ (by first | exact Nat.le_refl _ | (simp; done) | (simp; omega) | (have := HB.out.size; simp at *; omega)) _)⟩
  · have hd : decide ((n : Int) ≤ 15) = false := by simp; omega
    have HP := Lib.hid (show poolB l = false by unfold poolB; rw [HN.out, decide_eq_false h]; simp)
    go_enter Try.func73, Try.ntmps73
    go_wp2_with fail
    go_ret
    exact ⟨ret_bool (by rw [HP.out]), by repeat (first | with_reducible exact Below.refl _ _ | with_reducible exact HB.out | with_reducible apply Below.drew | with_reducible apply bdN | with_reducible refine Below.alloc ?_ (by first | exact Nat.le_refl _ | (simp; done) | (simp; omega) | (have := HB.out.size; simp at *; omega)) _ | with_reducible refine Below.setCell ?_ (by first | exact Nat.le_refl _ | (simp; done) | (simp; omega) | (have := HB.out.size; simp at *; omega)) _)⟩

set_option maxRecDepth 100000 in
set_option maxHeartbeats 4000000 in
theorem greatest_in (l : List Cd) (p : Option Addr) (n cp : Nat) (w : World) (hn : l.length = n) (hl : n ≤ 900) (hr : Rd w p (flat l)) (hok : l.all Cd.ok = true) (hs : sorted l) :
    Calls Try.prog 74 #[.slice p n cp] w fun e w' => ∃ g c, e = .returned (.slice (some ⟨g, 0, none⟩) (best l).length c) ∧ OwnI w' w.heap.size (.slice (some ⟨g, 0, none⟩) (best l).length c) (best l) ∧ Below w.heap.size w w' := by
  have hmf : ∀ (fn : Fn) (first cap : Array Value) (w : World), (Instr.makeFunc fn first cap).run Try.prog w = .ok (.func fn first cap) w := fun _ _ _ _ => rfl
  have HN := Lib.hid hn
  have HR := Lib.hid hr
  have HK := Lib.hid hok
  have HS := Lib.hid hs
  clear hn hr hok hs
  have hz1 : (w.alloc (.cells #[] 3)).heap.size = w.heap.size + 1 := by simp
  have hz2 : ((w.alloc (.cells #[] 3)).alloc (.cells #[.slice (some ⟨w.heap.size, 0, none⟩) 0 0] 29)).heap.size = w.heap.size + 1 + 1 := by simp
  have hb1 : ((w.alloc (.cells #[] 3)).alloc (.cells #[.slice (some ⟨w.heap.size, 0, none⟩) 0 0] 29)).heap[w.heap.size + 1]? = some (.cells #[.slice (some ⟨w.heap.size, 0, none⟩) 0 0] 29) := by
    have h := heap_alloc_new (w.alloc (.cells #[] 3)) (.cells #[.slice (some ⟨w.heap.size, 0, none⟩) 0 0] 29)
    rw [hz1] at h; exact h
  have hb2 := (Below.heap_alloc ((w.alloc (.cells #[] 3)).alloc (.cells #[.slice (some ⟨w.heap.size, 0, none⟩) 0 0] 29)) (.cells #[] 3) (w.heap.size + 1) (by omega)).trans hb1
  have ho1 := ((OwnI.empty w w.heap.size (Nat.le_refl _)).alloc (.cells #[.slice (some ⟨w.heap.size, 0, none⟩) 0 0] 29)).alloc (.cells #[] 3)
  have ho2 := OwnI.empty ((w.alloc (.cells #[] 3)).alloc (.cells #[.slice (some ⟨w.heap.size, 0, none⟩) 0 0] 29)) w.heap.size (by omega)
  rw [hz2] at ho2
  have HJ : Hid (Jg w.heap.size (w.heap.size + 1) (((w.alloc (.cells #[] 3)).alloc (.cells #[.slice (some ⟨w.heap.size, 0, none⟩) 0 0] 29)).alloc (.cells #[] 3)) [] (fun j => j = w.heap.size + 1 ∨ j = w.heap.size)) := Lib.hid ⟨w.heap.size, 0, hb2, ho1, by omega, by omega, rfl⟩
  have HO := Lib.hid ho2
  have hB0 : Below w.heap.size w (((w.alloc (.cells #[] 3)).alloc (.cells #[.slice (some ⟨w.heap.size, 0, none⟩) 0 0] 29)).alloc (.cells #[] 3)) := (((Below.refl _ _).alloc (Nat.le_refl _) _).alloc (by omega) _).alloc (by omega) _
  have HB0 := Lib.hid hB0
  have HBst := Lib.hid (show (tl l n []).foldl gf (gf [] []) = best l by rw [← HN.out]; rfl)
  clear hz1 hz2 hb1 hb2 ho1 ho2 hB0
  go_enter Try.func74, Try.ntmps74
  go_wp2_with fail
  refine (visit_greatest (List Int) gf (Jg w.heap.size (w.heap.size + 1)) (.pointer (some ⟨w.heap.size + 1, 0, none⟩)) w Jg.one Jg.two (greatest_fun w (w.heap.size + 1)) l p n cp HN.out hl HR.out HK.out HS.out n 0 0 [] (w.heap.size + 1 + 1) 0 0 [] _ _ rfl (by omega) rfl (Good.nil l) HJ.out HO.out (by omega) HB0.out).mono ?_
  rintro e w4 ⟨rfl, S', hj, ht, hs', ho⟩
  rw [HBst.out] at hj
  obtain ⟨g, c, h1, h2, h3, h4, rfl⟩ := hj
  have hc : w4.cell? ⟨w.heap.size + 1, 0, none⟩ = some (.slice (some ⟨g, 0, none⟩) (best l).length c) := (cell_of_row w4 (w.heap.size + 1) 0 _ _ _ h1).trans rfl
  have H2 := Lib.hid h2
  have HB4 : Hid (Below w.heap.size w w4) := Lib.hid (Turn.below HB0.out HB0.out.size ht (fun j hj => by omega))
  clear h1 h2 h4 ht hs' ho
  try go_end0
  go_wp2_with fail
  go_ret
  exact ⟨g, c, rfl, H2.out, HB4.out⟩

set_option maxRecDepth 100000 in
set_option maxHeartbeats 4000000 in
theorem impl_best (l : List Cd) (p : Option Addr) (n cp : Nat) (w : World) (hn : l.length = n) (hl : n ≤ 1000000000) (hr : Rd w p (flat l)) :
    Calls Try.prog 36 #[.slice p n cp] w fun e w' => ∃ u, e = .returned (.tuple #[u, .bool (bestR l).2]) ∧ OwnI w' w.heap.size u (bestR l).1 ∧ Below w.heap.size w w' := by
  have HN := Lib.hid hn
  have HR := Lib.hid hr
  clear hn hr
  go_enter Try.func36, Try.ntmps36
  go_wp2_with fail
  refine ((is_pool l p n cp _ HN.out hl (by repeat (first | with_reducible exact HR.out | with_reducible apply Rd.drewN | with_reducible apply Rd.drew | with_reducible apply Rd.alloc)))).mono ?_
  rintro e w1 ⟨rfl, b⟩
  have Sw1 := Lib.hid b.size
  have HB := Lib.hid (chain0 (w := w) (by repeat (first | with_reducible exact Below.refl _ _ | with_reducible exact HB.out | with_reducible apply Below.drew | with_reducible apply bdN | with_reducible refine Below.alloc ?_ (by first | exact Nat.le_refl _ | (simp; done) | (simp; omega) | (have := HB.out.size; simp at *; omega)) _ | with_reducible refine Below.setCell ?_ (by first | exact Nat.le_refl _ | (simp; done) | (simp; omega) | (have := HB.out.size; simp at *; omega)) _)) b)
  have HR := Lib.hid (Rd.below (by repeat (first | with_reducible exact HR.out | with_reducible apply Rd.drewN | with_reducible apply Rd.drew | with_reducible apply Rd.alloc)) b)
  clear b
  cases hh : poolB l
  · have HT := Lib.hid (show bestR l = ([], false) by unfold bestR; rw [if_neg (by simp [hh])])
    go_wp2_with fail
    go_ret2
    exact ⟨_, ret_two (by rw [HT.out]), by rw [HT.out]; exact OwnI.empty _ _ HB.out.size, by repeat (first | with_reducible exact Below.refl _ _ | with_reducible exact HB.out | with_reducible apply Below.drew | with_reducible apply bdN | with_reducible refine Below.alloc ?_ (by first | exact Nat.le_refl _ | (simp; done) | (simp; omega) | (have := HB.out.size; simp at *; omega)) _ | with_reducible refine Below.setCell ?_ (by first | exact Nat.le_refl _ | (simp; done) | (simp; omega) | (have := HB.out.size; simp at *; omega)) _)⟩
  · have HT := Lib.hid (show bestR l = (best l, true) by unfold bestR; rw [if_pos hh])
    have HH := Lib.hid (handB_true.1 (poolB_iff.1 hh).1)
    clear hh
    go_wp2_with fail
    refine (greatest_in l p n cp _ HN.out (by have := HH.out.1; have := HN.out; omega) (by repeat (first | with_reducible exact HR.out | with_reducible apply Rd.drewN | with_reducible apply Rd.drew | with_reducible apply Rd.alloc)) HH.out.2.1 HH.out.2.2).mono ?_
    rintro e w2 ⟨g, c, rfl, hu, b⟩
    have HZ := Lib.hid HB.out.size
    have Sw2 := Lib.hid b.size
    have HB := Lib.hid (chain0 (w := w) (by repeat (first | with_reducible exact Below.refl _ _ | with_reducible exact HB.out | with_reducible apply Below.drew | with_reducible apply bdN | with_reducible refine Below.alloc ?_ (by first | exact Nat.le_refl _ | (simp; done) | (simp; omega) | (have := HB.out.size; simp at *; omega)) _ | with_reducible refine Below.setCell ?_ (by first | exact Nat.le_refl _ | (simp; done) | (simp; omega) | (have := HB.out.size; simp at *; omega)) _)) b)
    have HR := Lib.hid (Rd.below (by repeat (first | with_reducible exact HR.out | with_reducible apply Rd.drewN | with_reducible apply Rd.drew | with_reducible apply Rd.alloc)) b)
    clear b
    have HU := Lib.hid (hu.base HZ.out)
    clear hu
    go_wp2_with fail
    go_ret2
    exact ⟨_, ret_two (by rw [HT.out]), by rw [HT.out]; exact HU.out, HB.out⟩

set_option maxRecDepth 100000 in
set_option maxHeartbeats 4000000 in
theorem impl_few (l : List Cd) (p : Option Addr) (n cp : Nat) (w : World) (hn : l.length = n) (hl : n ≤ 1000000000) (hr : Rd w p (flat l)) (hcp : n ≤ cp) :
    Calls Try.prog 40 #[.slice p n cp] w fun e w' => e = .returned (.tuple #[.int .i64 (fewR l).1, .bool (fewR l).2]) ∧ Below w.heap.size w w' := by
  have HN := Lib.hid hn
  have HR := Lib.hid hr
  clear hn hr
  go_enter Try.func40, Try.ntmps40
  go_wp2_with fail
  refine ((is_pool l p n cp _ HN.out hl (by repeat (first | with_reducible exact HR.out | with_reducible apply Rd.drewN | with_reducible apply Rd.drew | with_reducible apply Rd.alloc)))).mono ?_
  rintro e w1 ⟨rfl, b⟩
  have Sw1 := Lib.hid b.size
  have HB := Lib.hid (chain0 (w := w) (by repeat (first | with_reducible exact Below.refl _ _ | with_reducible exact HB.out | with_reducible apply Below.drew | with_reducible apply bdN | with_reducible refine Below.alloc ?_ (by first | exact Nat.le_refl _ | (simp; done) | (simp; omega) | (have := HB.out.size; simp at *; omega)) _ | with_reducible refine Below.setCell ?_ (by first | exact Nat.le_refl _ | (simp; done) | (simp; omega) | (have := HB.out.size; simp at *; omega)) _)) b)
  have HR := Lib.hid (Rd.below (by repeat (first | with_reducible exact HR.out | with_reducible apply Rd.drewN | with_reducible apply Rd.drew | with_reducible apply Rd.alloc)) b)
  clear b
  cases hh : poolB l
  · go_wp2_with fail
    go_ret2
    exact ⟨ret_ib (by unfold fewR; rw [if_neg (by simp [hh])]), by repeat (first | with_reducible exact Below.refl _ _ | with_reducible exact HB.out | with_reducible apply Below.drew | with_reducible apply bdN | with_reducible refine Below.alloc ?_ (by first | exact Nat.le_refl _ | (simp; done) | (simp; omega) | (have := HB.out.size; simp at *; omega)) _ | with_reducible refine Below.setCell ?_ (by first | exact Nat.le_refl _ | (simp; done) | (simp; omega) | (have := HB.out.size; simp at *; omega)) _)⟩
  · have HT := Lib.hid (show fewR l = ((l.length : Int) - (best l).length, true) by unfold fewR; rw [if_pos hh])
    have HH := Lib.hid (handB_true.1 (poolB_iff.1 hh).1)
    have h15 : n ≤ 15 := by have := (poolB_iff.1 hh).2; have := HN.out; omega
    clear hh
    go_wp2_with fail
    refine (greatest_in l p n cp _ HN.out (by omega) (by repeat (first | with_reducible exact HR.out | with_reducible apply Rd.drewN | with_reducible apply Rd.drew | with_reducible apply Rd.alloc)) HH.out.2.1 HH.out.2.2).mono ?_
    rintro e w2 ⟨g, c, rfl, hu, b⟩
    have hle := best_len l
    rw [HN.out] at hle
    obtain ⟨m, hm⟩ : ∃ m, (best l).length = m := ⟨_, rfl⟩
    have HM := Lib.hid hm
    rw [hm] at hle ⊢
    have Sw2 := Lib.hid b.size
    have HB := Lib.hid (chain0 (w := w) (by repeat (first | with_reducible exact Below.refl _ _ | with_reducible exact HB.out | with_reducible apply Below.drew | with_reducible apply bdN | with_reducible refine Below.alloc ?_ (by first | exact Nat.le_refl _ | (simp; done) | (simp; omega) | (have := HB.out.size; simp at *; omega)) _ | with_reducible refine Below.setCell ?_ (by first | exact Nat.le_refl _ | (simp; done) | (simp; omega) | (have := HB.out.size; simp at *; omega)) _)) b)
    have HR := Lib.hid (Rd.below (by repeat (first | with_reducible exact HR.out | with_reducible apply Rd.drewN | with_reducible apply Rd.drew | with_reducible apply Rd.alloc)) b)
    clear b
    clear hu hm
    have h0 : (0 : Int) ≤ (m : Int) := by omega
    have h1 : (m : Int) ≤ 15 := by omega
    have h2 : (0 : Int) ≤ (n : Int) := by omega
    have h3 : (n : Int) ≤ 15 := by omega
    go_wp2_with fail
    go_ret2
    exact ⟨ret_ib (by rw [HT.out, HN.out, HM.out]), HB.out⟩
end Go.Proofs.Ytbimbaogjknboaa.cards
