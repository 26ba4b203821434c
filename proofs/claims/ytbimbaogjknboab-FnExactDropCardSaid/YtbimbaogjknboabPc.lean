/- PutCard: the program and the model alike. -/
import Derived.Test.YtbimbaogjknboabGw
import Derived.Test.YtbimbaogjknboabPu
import Derived.Test.YtbimbaogjknboabHs
import Derived.Deep.RegionHeld3
namespace Go.Proofs.Ytbimbaogjknboab.cards
open Go.RowKit
set_option linter.unusedVariables false

theorem cell_last (w : World) (cs : Array Value) (t : TypeId) (g j : Nat) (hg : w.heap.size = g) : ((w.alloc (.cells cs t)).drew).cell? ⟨g, j, none⟩ = cs[j]? := by
  subst hg
  exact cell_of_row (w.alloc (.cells cs t)) w.heap.size j _ _ _ (heap_alloc_new w _)
theorem parts_put {w : World} {ba o n cp k : Nat} {l : List Cd} {c : Cd} (hr : Rd w (some ⟨ba, o, none⟩) (flat l)) (hn : l.length = n) (hk : k ≤ n) (hcp : n ≤ cp) :
    ∀ j l', [l.take k, [c], l.drop k][j]? = some l' → ∃ q c', (((w.alloc c.obj).alloc (.cells #[.slice (some ⟨ba, o, none⟩) k cp, .slice (some ⟨w.heap.size, 0, none⟩) 1 1, .slice (if cp = k then some ⟨ba, o, none⟩ else some ⟨ba, o + k * 4, none⟩) (n - k) (cp - k)] 29)).drew).cell? ⟨w.heap.size + 1, j, none⟩ = some (.slice q l'.length c') ∧ Rd (((w.alloc c.obj).alloc (.cells #[.slice (some ⟨ba, o, none⟩) k cp, .slice (some ⟨w.heap.size, 0, none⟩) 1 1, .slice (if cp = k then some ⟨ba, o, none⟩ else some ⟨ba, o + k * 4, none⟩) (n - k) (cp - k)] 29)).drew) q (flat l') ∧ (q = none → c' = 0) := by
  have hz : (w.alloc c.obj).heap.size = w.heap.size + 1 := by simp
  have hTl : (l.take k).length = k := by rw [List.length_take, hn]; omega
  have hDl : (l.drop k).length = n - k := by rw [List.length_drop, hn]
  intro j l' h
  have hj : j < 3 := (List.getElem?_eq_some_iff.1 h).1
  rcases (show j = 0 ∨ j = 1 ∨ j = 2 by omega) with rfl | rfl | rfl
  · simp at h; subst h
    exact ⟨_, _, by rw [cell_last _ _ _ _ _ hz, hTl]; rfl, (((hr.alloc _).alloc _).drew).take k, fun h => by cases h⟩
  · simp at h; subst h
    exact ⟨_, _, by rw [cell_last _ _ _ _ _ hz]; rfl, Box.rd1 (((Box.new w c).alloc _).drew), fun h => by cases h⟩
  · simp at h; subst h
    exact ⟨_, _, by rw [cell_last _ _ _ _ _ hz, hDl]; rfl, (((hr.alloc _).alloc _).drew).dropIf k (by rw [hn]; exact hcp), fun h => by split at h <;> cases h⟩

noncomputable def putR (l : List Cd) (c : Cd) : List Cd × Bool := if handB l = true ∧ c.ok = true ∧ l.length < 27 ∧ there l c = false then (put l c, true) else ([], false)
theorem put_len (l : List Cd) (c : Cd) : (put l c).length ≤ l.length + 1 := by
  unfold put
  split
  · omega
  · rw [List.length_append, List.length_cons, List.length_take, List.length_drop]; omega
theorem putR_len (l : List Cd) (c : Cd) : (putR l c).1.length ≤ 1000 := by
  unfold putR
  split
  · rename_i h
    have h1 := (handB_true.1 h.1).1
    have h2 := put_len l c
    show (put l c).length ≤ _
    omega
  · simp

set_option maxRecDepth 100000 in
set_option maxHeartbeats 4000000 in
theorem spec_put (l : List Cd) (c : Cd) (b o n cp : Nat) (w : World) (hn : l.length = n) (hl : n ≤ 1000000000) (hr : Rd w (some ⟨b, o, none⟩) (flat l)) (hcp : n ≤ cp) :
    Calls Try.prog 25 #[.slice (some ⟨b, o, none⟩) n cp, c.val] w fun e w' => ∃ u, e = .returned (.tuple #[u, .bool (putR l c).2]) ∧ Own w' w.heap.size u (putR l c).1 ∧ Below w.heap.size w w' := by
  have HN := Lib.hid hn
  have HR := Lib.hid hr
  clear hn hr
  go_enter Try.func25, Try.ntmps25
  go_wp2_with fail
  refine ((l2_hand l (some ⟨b, o, none⟩) n cp _ HN.out hl (by repeat (first | with_reducible exact HR.out | with_reducible apply Rd.drewN | with_reducible apply Rd.drew | with_reducible apply Rd.alloc)))).mono ?_
  rintro e w1 ⟨rfl, b⟩
  have Sw1 := Lib.hid b.size
  have HB := Lib.hid (chain0 (w := w) (by repeat (first | with_reducible exact Below.refl _ _ | with_reducible exact HB.out | with_reducible apply Below.drew | with_reducible apply bdN | with_reducible refine Below.alloc ?_ (by first | exact Nat.le_refl _ | (simp; done) | (simp; omega) | (have := HB.out.size; simp at *; omega)) _ | with_reducible refine Below.setCell ?_ (by first | exact Nat.le_refl _ | (simp; done) | (simp; omega) | (have := HB.out.size; simp at *; omega)) _)) b)
  have HR := Lib.hid (Rd.below (by repeat (first | with_reducible exact HR.out | with_reducible apply Rd.drewN | with_reducible apply Rd.drew | with_reducible apply Rd.alloc)) b)
  have K0 : Hid (Box _ (w.heap.size) (c)) := Lib.hid (Box.below (by repeat (first | with_reducible exact K0.out | with_reducible apply Box.drewN | with_reducible apply Box.drew | (with_reducible refine Box.newAt ?_ ?_ <;> first | (simp; done) | rfl) | with_reducible apply Box.alloc)) b)
  try clear k0a k0b k0c k0d k0z
  have k0z := K0.out.lt
  obtain ⟨k0a, k0b, k0c, k0d⟩ := K0.out.cell
  clear b
  cases hh : handB l
  · have HT := Lib.hid (show putR l c = ([], false) by unfold putR; rw [if_neg (by simp [hh])])
    go_wp2_with fail
    go_ret2
    exact ⟨_, ret_two (by rw [HT.out]), by rw [HT.out]; exact Own.empty _ _ HB.out.size, by repeat (first | with_reducible exact Below.refl _ _ | with_reducible exact HB.out | with_reducible apply Below.drew | with_reducible apply bdN | with_reducible refine Below.alloc ?_ (by first | exact Nat.le_refl _ | (simp; done) | (simp; omega) | (have := HB.out.size; simp at *; omega)) _ | with_reducible refine Below.setCell ?_ (by first | exact Nat.le_refl _ | (simp; done) | (simp; omega) | (have := HB.out.size; simp at *; omega)) _)⟩
  · go_wp2_with fail
    refine ((l2_card c _)).mono ?_
    rintro e w2 ⟨rfl, b⟩
    have Sw2 := Lib.hid b.size
    have HB := Lib.hid (chain0 (w := w) (by repeat (first | with_reducible exact Below.refl _ _ | with_reducible exact HB.out | with_reducible apply Below.drew | with_reducible apply bdN | with_reducible refine Below.alloc ?_ (by first | exact Nat.le_refl _ | (simp; done) | (simp; omega) | (have := HB.out.size; simp at *; omega)) _ | with_reducible refine Below.setCell ?_ (by first | exact Nat.le_refl _ | (simp; done) | (simp; omega) | (have := HB.out.size; simp at *; omega)) _)) b)
    have HR := Lib.hid (Rd.below (by repeat (first | with_reducible exact HR.out | with_reducible apply Rd.drewN | with_reducible apply Rd.drew | with_reducible apply Rd.alloc)) b)
    have K0 : Hid (Box _ (w.heap.size) (c)) := Lib.hid (Box.below (by repeat (first | with_reducible exact K0.out | with_reducible apply Box.drewN | with_reducible apply Box.drew | (with_reducible refine Box.newAt ?_ ?_ <;> first | (simp; done) | rfl) | with_reducible apply Box.alloc)) b)
    try clear k0a k0b k0c k0d k0z
    have k0z := K0.out.lt
    obtain ⟨k0a, k0b, k0c, k0d⟩ := K0.out.cell
    clear b
    cases hc : c.ok
    · have HT := Lib.hid (show putR l c = ([], false) by unfold putR; rw [if_neg (by simp [hc])])
      go_wp2_with fail
      go_ret2
      exact ⟨_, ret_two (by rw [HT.out]), by rw [HT.out]; exact Own.empty _ _ HB.out.size, by repeat (first | with_reducible exact Below.refl _ _ | with_reducible exact HB.out | with_reducible apply Below.drew | with_reducible apply bdN | with_reducible refine Below.alloc ?_ (by first | exact Nat.le_refl _ | (simp; done) | (simp; omega) | (have := HB.out.size; simp at *; omega)) _ | with_reducible refine Below.setCell ?_ (by first | exact Nat.le_refl _ | (simp; done) | (simp; omega) | (have := HB.out.size; simp at *; omega)) _)⟩
    · have HH := Lib.hid (handB_true.1 hh)
      have HC := Lib.hid hc
      have hn27 : n ≤ 27 := by have := HH.out.1; have := HN.out; omega
      by_cases h27 : n = 27
      · have HT := Lib.hid (show putR l c = ([], false) by unfold putR; rw [if_neg (fun h => by have := h.2.2.1; have := HN.out; omega)])
        subst h27
        go_wp2_with fail
        go_ret2
        exact ⟨_, ret_two (by rw [HT.out]), by rw [HT.out]; exact Own.empty _ _ HB.out.size, by repeat (first | with_reducible exact Below.refl _ _ | with_reducible exact HB.out | with_reducible apply Below.drew | with_reducible apply bdN | with_reducible refine Below.alloc ?_ (by first | exact Nat.le_refl _ | (simp; done) | (simp; omega) | (have := HB.out.size; simp at *; omega)) _ | with_reducible refine Below.setCell ?_ (by first | exact Nat.le_refl _ | (simp; done) | (simp; omega) | (have := HB.out.size; simp at *; omega)) _)⟩
      · have hd : decide (27 ≤ (n : Int)) = false := by simp; omega
        go_wp2_with fail
        refine ((l2_has l c (some ⟨b, o, none⟩) n cp _ HN.out (by omega) (by repeat (first | with_reducible exact HR.out | with_reducible apply Rd.drewN | with_reducible apply Rd.drew | with_reducible apply Rd.alloc)) HH.out.2.1 HC.out HH.out.2.2)).mono ?_
        rintro e w3 ⟨rfl, b⟩
        have Sw3 := Lib.hid b.size
        have HB := Lib.hid (chain0 (w := w) (by repeat (first | with_reducible exact Below.refl _ _ | with_reducible exact HB.out | with_reducible apply Below.drew | with_reducible apply bdN | with_reducible refine Below.alloc ?_ (by first | exact Nat.le_refl _ | (simp; done) | (simp; omega) | (have := HB.out.size; simp at *; omega)) _ | with_reducible refine Below.setCell ?_ (by first | exact Nat.le_refl _ | (simp; done) | (simp; omega) | (have := HB.out.size; simp at *; omega)) _)) b)
        have HR := Lib.hid (Rd.below (by repeat (first | with_reducible exact HR.out | with_reducible apply Rd.drewN | with_reducible apply Rd.drew | with_reducible apply Rd.alloc)) b)
        have K0 : Hid (Box _ (w.heap.size) (c)) := Lib.hid (Box.below (by repeat (first | with_reducible exact K0.out | with_reducible apply Box.drewN | with_reducible apply Box.drew | (with_reducible refine Box.newAt ?_ ?_ <;> first | (simp; done) | rfl) | with_reducible apply Box.alloc)) b)
        try clear k0a k0b k0c k0d k0z
        have k0z := K0.out.lt
        obtain ⟨k0a, k0b, k0c, k0d⟩ := K0.out.cell
        clear b
        cases ht : there l c
        · have HT := Lib.hid (show putR l c = (put l c, true) by unfold putR; rw [if_pos ⟨hh, hc, by rw [HN.out]; omega, ht⟩])
          clear hh hc ht
          go_wp2_with fail
          refine (l2_put l c b o n cp _ HN.out (by omega) hcp (by repeat (first | with_reducible exact HR.out | with_reducible apply Rd.drewN | with_reducible apply Rd.drew | with_reducible apply Rd.alloc)) HH.out.2.1 HC.out HH.out.2.2).mono ?_
          rintro e w4 ⟨u, rfl, hu, b⟩
          have HZ := Lib.hid HB.out.size
          have Sw4 := Lib.hid b.size
          have HB := Lib.hid (chain0 (w := w) (by repeat (first | with_reducible exact Below.refl _ _ | with_reducible exact HB.out | with_reducible apply Below.drew | with_reducible apply bdN | with_reducible refine Below.alloc ?_ (by first | exact Nat.le_refl _ | (simp; done) | (simp; omega) | (have := HB.out.size; simp at *; omega)) _ | with_reducible refine Below.setCell ?_ (by first | exact Nat.le_refl _ | (simp; done) | (simp; omega) | (have := HB.out.size; simp at *; omega)) _)) b)
          have HR := Lib.hid (Rd.below (by repeat (first | with_reducible exact HR.out | with_reducible apply Rd.drewN | with_reducible apply Rd.drew | with_reducible apply Rd.alloc)) b)
          have K0 : Hid (Box _ (w.heap.size) (c)) := Lib.hid (Box.below (by repeat (first | with_reducible exact K0.out | with_reducible apply Box.drewN | with_reducible apply Box.drew | (with_reducible refine Box.newAt ?_ ?_ <;> first | (simp; done) | rfl) | with_reducible apply Box.alloc)) b)
          try clear k0a k0b k0c k0d k0z
          have k0z := K0.out.lt
          obtain ⟨k0a, k0b, k0c, k0d⟩ := K0.out.cell
          clear b
          have HU := Lib.hid (hu.own.base HZ.out)
          clear hu
          go_wp2_with fail
          go_ret2
          exact ⟨_, ret_two (by rw [HT.out]), by rw [HT.out]; exact HU.out, HB.out⟩
        · have HT := Lib.hid (show putR l c = ([], false) by unfold putR; rw [if_neg (by simp [ht])])
          go_wp2_with fail
          go_ret2
          exact ⟨_, ret_two (by rw [HT.out]), by rw [HT.out]; exact Own.empty _ _ HB.out.size, by repeat (first | with_reducible exact Below.refl _ _ | with_reducible exact HB.out | with_reducible apply Below.drew | with_reducible apply bdN | with_reducible refine Below.alloc ?_ (by first | exact Nat.le_refl _ | (simp; done) | (simp; omega) | (have := HB.out.size; simp at *; omega)) _ | with_reducible refine Below.setCell ?_ (by first | exact Nat.le_refl _ | (simp; done) | (simp; omega) | (have := HB.out.size; simp at *; omega)) _)⟩

set_option maxRecDepth 100000 in
set_option maxHeartbeats 4000000 in
theorem impl_put (l : List Cd) (c : Cd) (ba o n cp : Nat) (w : World) (hn : l.length = n) (hl : n ≤ 1000000000) (hr : Rd w (some ⟨ba, o, none⟩) (flat l)) (hcp : n ≤ cp) :
    Calls Try.prog 26 #[.slice (some ⟨ba, o, none⟩) n cp, c.val] w fun e w' => ∃ u, e = .returned (.tuple #[u, .bool (putR l c).2]) ∧ Own w' w.heap.size u (putR l c).1 ∧ Below w.heap.size w w' := by
  have HN := Lib.hid hn
  have HR := Lib.hid hr
  have HR0 := Lib.hid hr
  clear hn hr
  go_enter Try.func26, Try.ntmps26
  go_wp2_with fail
  refine ((is_hand l (some ⟨ba, o, none⟩) n cp _ HN.out hl (by repeat (first | with_reducible exact HR.out | with_reducible apply Rd.drewN | with_reducible apply Rd.drew | with_reducible apply Rd.alloc)))).mono ?_
  rintro e w1 ⟨rfl, b⟩
  have Sw1 := Lib.hid b.size
  have HB := Lib.hid (chain0 (w := w) (by repeat (first | with_reducible exact Below.refl _ _ | with_reducible exact HB.out | with_reducible apply Below.drew | with_reducible apply bdN | with_reducible refine Below.alloc ?_ (by first | exact Nat.le_refl _ | (simp; done) | (simp; omega) | (have := HB.out.size; simp at *; omega)) _ | with_reducible refine Below.setCell ?_ (by first | exact Nat.le_refl _ | (simp; done) | (simp; omega) | (have := HB.out.size; simp at *; omega)) _)) b)
  have HR := Lib.hid (Rd.below (by repeat (first | with_reducible exact HR.out | with_reducible apply Rd.drewN | with_reducible apply Rd.drew | with_reducible apply Rd.alloc)) b)
  have K0 : Hid (Box _ (w.heap.size) (c)) := Lib.hid (Box.below (by repeat (first | with_reducible exact K0.out | with_reducible apply Box.drewN | with_reducible apply Box.drew | (with_reducible refine Box.newAt ?_ ?_ <;> first | (simp; done) | rfl) | with_reducible apply Box.alloc)) b)
  try clear k0a k0b k0c k0d k0z
  have k0z := K0.out.lt
  obtain ⟨k0a, k0b, k0c, k0d⟩ := K0.out.cell
  clear b
  cases hh : handB l
  · have HT := Lib.hid (show putR l c = ([], false) by unfold putR; rw [if_neg (by simp [hh])])
    go_wp2_with fail
    go_ret2
    exact ⟨_, ret_two (by rw [HT.out]), by rw [HT.out]; exact Own.empty _ _ HB.out.size, by repeat (first | with_reducible exact Below.refl _ _ | with_reducible exact HB.out | with_reducible apply Below.drew | with_reducible apply bdN | with_reducible refine Below.alloc ?_ (by first | exact Nat.le_refl _ | (simp; done) | (simp; omega) | (have := HB.out.size; simp at *; omega)) _ | with_reducible refine Below.setCell ?_ (by first | exact Nat.le_refl _ | (simp; done) | (simp; omega) | (have := HB.out.size; simp at *; omega)) _)⟩
  · go_wp2_with fail
    refine ((is_card c _)).mono ?_
    rintro e w2 ⟨rfl, b⟩
    have Sw2 := Lib.hid b.size
    have HB := Lib.hid (chain0 (w := w) (by repeat (first | with_reducible exact Below.refl _ _ | with_reducible exact HB.out | with_reducible apply Below.drew | with_reducible apply bdN | with_reducible refine Below.alloc ?_ (by first | exact Nat.le_refl _ | (simp; done) | (simp; omega) | (have := HB.out.size; simp at *; omega)) _ | with_reducible refine Below.setCell ?_ (by first | exact Nat.le_refl _ | (simp; done) | (simp; omega) | (have := HB.out.size; simp at *; omega)) _)) b)
    have HR := Lib.hid (Rd.below (by repeat (first | with_reducible exact HR.out | with_reducible apply Rd.drewN | with_reducible apply Rd.drew | with_reducible apply Rd.alloc)) b)
    have K0 : Hid (Box _ (w.heap.size) (c)) := Lib.hid (Box.below (by repeat (first | with_reducible exact K0.out | with_reducible apply Box.drewN | with_reducible apply Box.drew | (with_reducible refine Box.newAt ?_ ?_ <;> first | (simp; done) | rfl) | with_reducible apply Box.alloc)) b)
    try clear k0a k0b k0c k0d k0z
    have k0z := K0.out.lt
    obtain ⟨k0a, k0b, k0c, k0d⟩ := K0.out.cell
    clear b
    cases hc : c.ok
    · have HT := Lib.hid (show putR l c = ([], false) by unfold putR; rw [if_neg (by simp [hc])])
      go_wp2_with fail
      go_ret2
      exact ⟨_, ret_two (by rw [HT.out]), by rw [HT.out]; exact Own.empty _ _ HB.out.size, by repeat (first | with_reducible exact Below.refl _ _ | with_reducible exact HB.out | with_reducible apply Below.drew | with_reducible apply bdN | with_reducible refine Below.alloc ?_ (by first | exact Nat.le_refl _ | (simp; done) | (simp; omega) | (have := HB.out.size; simp at *; omega)) _ | with_reducible refine Below.setCell ?_ (by first | exact Nat.le_refl _ | (simp; done) | (simp; omega) | (have := HB.out.size; simp at *; omega)) _)⟩
    · have HH := Lib.hid (handB_true.1 hh)
      have HC := Lib.hid hc
      have hn27 : n ≤ 27 := by have := HH.out.1; have := HN.out; omega
      by_cases h27 : n = 27
      · have HT := Lib.hid (show putR l c = ([], false) by unfold putR; rw [if_neg (fun h => by have := h.2.2.1; have := HN.out; omega)])
        subst h27
        go_wp2_with fail
        go_ret2
        exact ⟨_, ret_two (by rw [HT.out]), by rw [HT.out]; exact Own.empty _ _ HB.out.size, by repeat (first | with_reducible exact Below.refl _ _ | with_reducible exact HB.out | with_reducible apply Below.drew | with_reducible apply bdN | with_reducible refine Below.alloc ?_ (by first | exact Nat.le_refl _ | (simp; done) | (simp; omega) | (have := HB.out.size; simp at *; omega)) _ | with_reducible refine Below.setCell ?_ (by first | exact Nat.le_refl _ | (simp; done) | (simp; omega) | (have := HB.out.size; simp at *; omega)) _)⟩
      · have hd : ((n : Int) == 27) = false := by simp; omega
        go_wp2_with fail
        refine ((place_in l c (some ⟨ba, o, none⟩) n cp _ HN.out (by omega) (by repeat (first | with_reducible exact HR.out | with_reducible apply Rd.drewN | with_reducible apply Rd.drew | with_reducible apply Rd.alloc)) HH.out.2.1 HC.out HH.out.2.2)).mono ?_
        rintro e w3 ⟨rfl, b⟩
        have Sw3 := Lib.hid b.size
        have HB := Lib.hid (chain0 (w := w) (by repeat (first | with_reducible exact Below.refl _ _ | with_reducible exact HB.out | with_reducible apply Below.drew | with_reducible apply bdN | with_reducible refine Below.alloc ?_ (by first | exact Nat.le_refl _ | (simp; done) | (simp; omega) | (have := HB.out.size; simp at *; omega)) _ | with_reducible refine Below.setCell ?_ (by first | exact Nat.le_refl _ | (simp; done) | (simp; omega) | (have := HB.out.size; simp at *; omega)) _)) b)
        have HR := Lib.hid (Rd.below (by repeat (first | with_reducible exact HR.out | with_reducible apply Rd.drewN | with_reducible apply Rd.drew | with_reducible apply Rd.alloc)) b)
        have K0 : Hid (Box _ (w.heap.size) (c)) := Lib.hid (Box.below (by repeat (first | with_reducible exact K0.out | with_reducible apply Box.drewN | with_reducible apply Box.drew | (with_reducible refine Box.newAt ?_ ?_ <;> first | (simp; done) | rfl) | with_reducible apply Box.alloc)) b)
        try clear k0a k0b k0c k0d k0z
        have k0z := K0.out.lt
        obtain ⟨k0a, k0b, k0c, k0d⟩ := K0.out.cell
        clear b
        cases ht : there l c
        · have HT := Lib.hid (show putR l c = (put l c, true) by unfold putR; rw [if_pos ⟨hh, hc, by rw [HN.out]; omega, ht⟩])
          have hle := less_le l c
          rw [HN.out] at hle
          obtain ⟨k, hk⟩ : ∃ k, less l c = k := ⟨_, rfl⟩
          rw [hk] at hle ⊢
          have HP := Lib.hid (show put l c = ([l.take k, [c], l.drop k] : List (List Cd)).flatten by unfold put; rw [if_neg (by simp [ht]), hk]; simp)
          have hTl : (l.take k).length = k := by rw [List.length_take, HN.out]; omega
          have hDl : (l.drop k).length = n - k := by rw [List.length_drop, HN.out]
          have HTl := Lib.hid hTl
          have HDl := Lib.hid hDl
          have k0' : (0 : Int) ≤ (k : Int) := by omega
          have k1' : (k : Int) ≤ (n : Int) := by omega
          have k2' : (k : Int) ≤ (cp : Int) := by omega
          clear hh hc ht hk hTl hDl
          have HPl := Lib.hid (show ([l.take k, [c], l.drop k] : List (List Cd)).flatten.length ≤ 1000000 by have := HN.out; simp; omega)
          have HPp := Lib.hid (parts_put (c := c) HR.out HN.out hle hcp)
          have hz4 := HB.out.size
          go_wp2_with fail
          go_region_law (go_simp; go_at_call 99; refine (concat [l.take k, [c], l.drop k] (w3.heap.size + 1) 3 3 _ rfl (by omega) HPl.out (by simp) HPp.out).mono ?_; rintro e w5 ⟨u, rfl, hu, b⟩; have HU : Hid (Own w5 w.heap.size u (put l c)) := Lib.hid (by rw [HP.out]; exact hu.base (by simp; omega)); have HB := Lib.hid (chain0 (w := w) (by repeat (first | with_reducible exact Below.refl _ _ | with_reducible exact HB.out | with_reducible apply Below.drew | with_reducible apply bdN | with_reducible refine Below.alloc ?_ (by first | exact Nat.le_refl _ | (simp; done) | (simp; omega) | (have := HB.out.size; simp at *; omega)) _ | with_reducible refine Below.setCell ?_ (by first | exact Nat.le_refl _ | (simp; done) | (simp; omega) | (have := HB.out.size; simp at *; omega)) _)) b); clear hu)
          all_goals
            go_wp2_with fail
            all_goals go_ret2
            all_goals exact ⟨_, ret_two (by rw [HT.out]), by rw [HT.out]; exact HU.out, HB.out⟩
        · have HT := Lib.hid (show putR l c = ([], false) by unfold putR; rw [if_neg (by simp [ht])])
          go_wp2_with fail
          go_ret2
          exact ⟨_, ret_two (by rw [HT.out]), by rw [HT.out]; exact Own.empty _ _ HB.out.size, by repeat (first | with_reducible exact Below.refl _ _ | with_reducible exact HB.out | with_reducible apply Below.drew | with_reducible apply bdN | with_reducible refine Below.alloc ?_ (by first | exact Nat.le_refl _ | (simp; done) | (simp; omega) | (have := HB.out.size; simp at *; omega)) _ | with_reducible refine Below.setCell ?_ (by first | exact Nat.le_refl _ | (simp; done) | (simp; omega) | (have := HB.out.size; simp at *; omega)) _)⟩

theorem spec_put2 (l : List Cd) (c : Cd) (p : Option Addr) (n cp : Nat) (w : World) (hn : l.length = n) (hl : n ≤ 1000000000) (hr : Rd w p (flat l)) (h : n ≤ cp ∧ ∃ b o, p = some ⟨b, o, none⟩) :
    Calls Try.prog 25 #[.slice p n cp, c.val] w fun e w' => ∃ u, e = .returned (.tuple #[u, .bool (putR l c).2]) ∧ Own w' w.heap.size u (putR l c).1 ∧ Below w.heap.size w w' := by
  obtain ⟨hcp, b, o, rfl⟩ := h
  exact spec_put l c b o n cp w hn hl hr hcp
theorem impl_put2 (l : List Cd) (c : Cd) (p : Option Addr) (n cp : Nat) (w : World) (hn : l.length = n) (hl : n ≤ 1000000000) (hr : Rd w p (flat l)) (h : n ≤ cp ∧ ∃ b o, p = some ⟨b, o, none⟩) :
    Calls Try.prog 26 #[.slice p n cp, c.val] w fun e w' => ∃ u, e = .returned (.tuple #[u, .bool (putR l c).2]) ∧ Own w' w.heap.size u (putR l c).1 ∧ Below w.heap.size w w' := by
  obtain ⟨hcp, b, o, rfl⟩ := h
  exact impl_put l c b o n cp w hn hl hr hcp
end Go.Proofs.Ytbimbaogjknboab.cards
