/- Hands that the law makes: its own functions walked. -/
import Derived.Test.YtcjmlddpjbneiaaRw
namespace Go.Proofs.Ytcjmlddpjbneiaa.cards
open Go.RowKit
set_option linter.unusedVariables false

def szLeft (n : Nat) (left : Int) : Int := if left - n < 0 then -1 else left - n
set_option maxHeartbeats 400000 in
theorem sz_hand (p : Option Addr) (n c : Nat) (left : Int) (w : World) (h0 : 0 ≤ left) (h1 : left ≤ 1048576) (hn : n ≤ maxLen) :
    Calls Try.prog 16 #[.slice p n c, .int .i64 left] w fun e w' => e = .returned (.int .i64 (szLeft n left)) ∧ w = w' := by
  unfold maxLen at hn
  by_cases h : left - n < 0
  · have HT := Lib.hid (show -1 = szLeft n left by rw [szLeft, if_pos h])
    go_enter Try.func16, Try.ntmps16
    go_wp2
    go_ret
    exact ⟨ret_int HT.out, rfl⟩
  · have HT := Lib.hid (show left - n = szLeft n left by rw [szLeft, if_neg h])
    go_enter Try.func16, Try.ntmps16
    go_wp2
    go_ret
    exact ⟨ret_int HT.out, rfl⟩

/-- The copy when i cards are copied. -/
def part (l : List Cd) (n i : Nat) : List Cd := l.take i ++ List.replicate (n - i) zero
theorem part_zero (l : List Cd) (n : Nat) : part l n 0 = List.replicate n zero := by simp [part]
theorem part_all {l : List Cd} {n : Nat} (h : l.length = n) : part l n n = l := by simp [part, ← h]
theorem part_len {l : List Cd} {n i : Nat} (h : l.length = n) (hi : i ≤ n) : (part l n i).length = n := by simp [part]; omega
theorem part_set {l : List Cd} {n i : Nat} {x : Cd} (h : l.length = n) (hi : i < n) (hx : l[i]? = some x) : (part l n i).set i x = part l n (i + 1) := by
  unfold part
  rw [List.set_append_right _ _ (by simp; omega), take_snoc hx, List.append_assoc]
  have e : i - (l.take i).length = 0 := by simp; omega
  rw [e, show n - i = (n - (i + 1)) + 1 by omega, List.replicate_succ]
  rfl

set_option maxRecDepth 100000 in
set_option maxHeartbeats 2000000 in
theorem to_hand (l : List Cd) (p : Option Addr) (n c : Nat) (w : World) (hn : l.length = n) (hl : n ≤ 1000000000) (hr : Rd w p (flat l)) :
    Calls Try.prog 18 #[.slice p n c] w fun e w' => ∃ v, e = .returned v ∧ Own w' w.heap.size v l ∧ Below w.heap.size w w' := by
  have HN := Lib.hid hn
  have HR := Lib.hid hr
  have hmk := made n hl
  clear hn hr
  go_enter Try.func18, Try.ntmps18
  go_wp2_with fail
  clear hmk
  go_loopw [4] (fun i wr => ∃ k : Nat, k ≤ n ∧ i = .int .i64 k ∧ Hid (Own wr w.heap.size (.slice (some ⟨w.heap.size, 0, none⟩) n n) (part l n k)) ∧ Hid (Below w.heap.size w wr)) (fun i _ => n - (intOf i).toNat)
  case atStart => exact ⟨0, Nat.zero_le _, rfl, by rw [part_zero]; exact own_made w n hl, (Below.refl _ _).alloc (Nat.le_refl _) _⟩
  case round =>
    obtain ⟨k, hk, rfl, HO, HB⟩ := hrel
    by_cases hlt : k < n
    · obtain ⟨b, o, x, rfl, hb, hx, c0, c1, c2, c3⟩ := (HR.out.below HB.out).card (k := k) (by rw [HN.out]; exact hlt)
      have HX := Lib.hid hx
      have b0 : (0 : Int) ≤ (k : Int) := by omega
      have b1 : (k : Int) < (n : Int) := by omega
      clear hx
      go_wp2_with fail
      refine ((to_a4 x _)).mono ?_
      rintro e w1 ⟨rfl, b⟩
      have Sw1 := Lib.hid b.size
      have HB := Lib.hid (chain0 (w := w) (by repeat (first | with_reducible exact Below.refl _ _ | with_reducible exact HB.out | with_reducible apply Below.drew | with_reducible apply bdN | with_reducible refine Below.alloc ?_ (by first | exact Nat.le_refl _ | with_reducible exact HB.out.size | omega | (simp; done) | (simp; omega) | (have := HB.out.size; simp at *; omega)) _ | with_reducible refine Below.setCell ?_ (by first | exact Nat.le_refl _ | with_reducible exact HB.out.size | omega | (simp; done) | (simp; omega) | (have := HB.out.size; simp at *; omega)) _)) b)
      have HO := Lib.hid (Own.below (by repeat (first | with_reducible exact HO.out | with_reducible apply Own.drewN | with_reducible apply Own.drew | with_reducible apply Own.alloc)) b)
      clear b
      clear c0 c1 c2 c3
      have HP := Lib.hid (part_set (n := n) HN.out hlt HX.out)
      obtain ⟨y, hy, d0, d1, d2, d3, hf, hB, hg⟩ := HO.out.slots (part_len HN.out hk) k hlt
      have hz := HB.out.size
      clear hy
      have HS := Lib.hid (HO.out.store (part_len HN.out hk) k hlt x)
      rw [HP.out] at HS
      clear HO
      go_wp2_with fail
      go_roundw
      case rel => exact ⟨k + 1, by omega, by go_num, HS, Lib.hid (by repeat (first | with_reducible exact Below.refl _ _ | with_reducible exact HB.out | with_reducible apply Below.drew | with_reducible apply bdN | with_reducible refine Below.alloc ?_ (by first | exact Nat.le_refl _ | with_reducible exact HB.out.size | omega | (simp; done) | (simp; omega) | (have := HB.out.size; simp at *; omega)) _ | with_reducible refine Below.setCell ?_ (by first | exact Nat.le_refl _ | with_reducible exact HB.out.size | omega | (simp; done) | (simp; omega) | (have := HB.out.size; simp at *; omega)) _))⟩
      case measure => simp [intOf]; omega
    · obtain rfl : k = n := by omega
      rw [part_all HN.out] at HO
      go_wp2_with fail
      go_ret
      exact ⟨_, rfl, HO.out, HB.out⟩

theorem same_self (x : Cd) : same x x = true := by simp [same]
set_option maxRecDepth 100000 in
set_option maxHeartbeats 2000000 in
theorem eq_hand (l : List Cd) (p1 p2 : Option Addr) (n c1 c2 : Nat) (w : World) (hn : l.length = n) (hl : n ≤ 1000000000) (hr1 : Rd w p1 (flat l)) (hr2 : Rd w p2 (flat l)) :
    Calls Try.prog 20 #[.slice p1 n c1, .slice p2 n c2] w fun e w' => e = .returned (.bool true) ∧ Below w.heap.size w w' := by
  have HN := Lib.hid hn
  have H1 := Lib.hid hr1
  have H2 := Lib.hid hr2
  clear hn hr1 hr2
  go_enter Try.func20, Try.ntmps20
  go_wp2_with fail
  go_loopw [5] (fun i wr => ∃ k : Nat, k ≤ n ∧ i = .int .i64 k ∧ Hid (Below w.heap.size w wr)) (fun i _ => n - (intOf i).toNat)
  case atStart => exact ⟨0, Nat.zero_le _, rfl, Below.refl _ _⟩
  case round =>
    obtain ⟨k, hk, rfl, HB⟩ := hrel
    by_cases hlt : k < n
    · obtain ⟨b, o, x, rfl, hb, hx, d0, d1, d2, d3⟩ := (H1.out.below HB.out).card (k := k) (by rw [HN.out]; exact hlt)
      obtain ⟨b', o', y, rfl, hb', hy, e0, e1, e2, e3⟩ := (H2.out.below HB.out).card (k := k) (by rw [HN.out]; exact hlt)
      obtain rfl : x = y := by rw [hx] at hy; injection hy
      have hs := same_self x
      have b0 : (0 : Int) ≤ (k : Int) := by omega
      have b1 : (k : Int) < (n : Int) := by omega
      clear hx hy
      go_wp2_with fail
      have qd0 := fun d os => cell_regrown d0 d os
      have qd1 := fun d os => cell_regrown d1 d os
      have qd2 := fun d os => cell_regrown d2 d os
      have qd3 := fun d os => cell_regrown d3 d os
      have qe0 := fun d os => cell_regrown e0 d os
      have qe1 := fun d os => cell_regrown e1 d os
      have qe2 := fun d os => cell_regrown e2 d os
      have qe3 := fun d os => cell_regrown e3 d os
      refine wp_region_quiet_below (by kernel_rfl) (by kernel_rfl) ?_
      repeat (first | go_big_quiet_step ((go_at_call 24; exact Calls.regrown_of (eq_a4 _ _ _))) | quiet_step ((go_at_call 24; exact Calls.regrown_of (eq_a4 _ _ _))))
      refine wpQuiet_nil ?_
      intro w2 hw2
      have b : Below wr.heap.size wr w2 := by obtain ⟨r, hr⟩ := hw2; rw [hr]; exact below_regrown _ _ _
      clear hw2 qd0 qd1 qd2 qd3 qe0 qe1 qe2 qe3
      have Sw2 := Lib.hid b.size
      have HB := Lib.hid (chain0 (w := w) (by repeat (first | with_reducible exact Below.refl _ _ | with_reducible exact HB.out | with_reducible apply Below.drew | with_reducible apply bdN | with_reducible refine Below.alloc ?_ (by first | exact Nat.le_refl _ | with_reducible exact HB.out.size | omega | (simp; done) | (simp; omega) | (have := HB.out.size; simp at *; omega)) _ | with_reducible refine Below.setCell ?_ (by first | exact Nat.le_refl _ | with_reducible exact HB.out.size | omega | (simp; done) | (simp; omega) | (have := HB.out.size; simp at *; omega)) _)) b)
      clear b
      clear d0 d1 d2 d3 e0 e1 e2 e3
      go_wp2_with fail
      go_roundw
      case rel => exact ⟨k + 1, by omega, by go_num, HB⟩
      case measure => simp [intOf]; omega
    · obtain rfl : k = n := by omega
      go_wp2_with fail
      go_ret
      exact ⟨rfl, HB.out⟩

/-- What a marked card holds, and a row whose first i cards are marked. -/
def mk (k i : Nat) : Cd := ⟨(k : Int) + 4 * (i : Int), (k : Int) + 4 * (i : Int) + 1, (k : Int) + 4 * (i : Int) + 1 + 1, (k : Int) + 4 * (i : Int) + 1 + 1 + 1⟩
def mks (k : Nat) (l : List Cd) (i : Nat) : List Cd := (List.range i).map (mk k) ++ l.drop i
theorem mks_zero (k : Nat) (l : List Cd) : mks k l 0 = l := by simp [mks]
theorem mks_len {k : Nat} {l : List Cd} {n i : Nat} (h : l.length = n) (hi : i ≤ n) : (mks k l i).length = n := by simp [mks]; omega
theorem mks_set {k : Nat} {l : List Cd} {n i : Nat} (h : l.length = n) (hi : i < n) : (mks k l i).set i (mk k i) = mks k l (i + 1) := by
  unfold mks
  rw [List.set_append_right _ _ (by simp), List.range_succ, List.map_append, List.append_assoc]
  have e : i - ((List.range i).map (mk k)).length = 0 := by simp
  rw [e, List.drop_eq_getElem_cons (by omega)]
  rfl
def marked (k n : Nat) : List Cd := (List.range n).map (mk k)
theorem mks_all {k : Nat} {l : List Cd} {n : Nat} (h : l.length = n) : mks k l n = marked k n := by simp [mks, marked, ← h]
theorem marked_len (k n : Nat) : (marked k n).length = n := by simp [marked]
theorem marked_at {k n i : Nat} (h : i < n) : (marked k n)[i]? = some (mk k i) := by simp [marked, h]

/-- A store into the one row that may turn. -/
theorem grown_set {a w : World} {g : Nat} (h : a.grownBy w (some g)) (o : Nat) (u : Value) : a.grownBy (w.setCell ⟨g, o, none⟩ u) (some g) :=
  ⟨h.os, h.tape, h.output, by simpa [World.setCell] using h.size, fun i hi hne => (Below.heap_setCell w ⟨g, o, none⟩ u i (fun e => hne (by rw [e]))).trans (h.block i hi hne)⟩
/-- The copy, in the form in which the law hands it on. -/
theorem to_hand' (l : List Cd) (p : Option Addr) (n c : Nat) (w : World) (hn : l.length = n) (hl : n ≤ 1000000000) (hr : Rd w p (flat l)) :
    Calls Try.prog 18 #[.slice p n c] w fun e w' => ∃ p' c', e = .returned (.slice p' n c') ∧ Own w' w.heap.size (.slice p' n c') l ∧ Rd w' p' (flat l) ∧ n ≤ c' ∧ Below w.heap.size w w' :=
  (to_hand l p n c w hn hl hr).mono fun e w' ⟨v, he, ho, hb⟩ => by
    obtain ⟨p', c', rfl, hc, hr', _⟩ := ho.form
    rw [hn] at he ho hc
    exact ⟨p', c', he, ho, hr', hc, hb⟩
theorem szLeft_yes {n : Nat} (h : n ≤ 1048576) : 0 ≤ szLeft n 1048576 ∧ szLeft n 1048576 ≤ 1048576 := by unfold szLeft; split <;> omega
theorem szLeft_no {n : Nat} (h : ¬ n ≤ 1048576) : szLeft n 1048576 < 0 := by unfold szLeft; split <;> omega
theorem Box.marked {w w1 : World} {g : Nat} {x : Cd} {row : Option Nat} (h : Box w g x) (hg : w.grownBy w1 row) (h2 : ∀ k, row = some k → g < k) : Box w1 g x :=
  (hg.block g h.lt (fun e => Nat.lt_irrefl _ (h2 g e.symm))).trans h
end Go.Proofs.Ytcjmlddpjbneiaa.cards
