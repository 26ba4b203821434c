/- Merged texts: An, Hs, Gh, Gp, Gq, Gr. -/
import Derived.Test.YtcedbhgjabheaaaCa
import Derived.Test.YtcedbhgjabheaaaLm
import Derived.Test.YtcedbhgjabheaaaIh
import Derived.Test.YtcedbhgjabheaaaNm
import Derived.Test.YtcedbhgjabheaaaAp
import Derived.Test.YtcedbhgjabheaaaAt
import Derived.Test.YtcedbhgjabheaaaGc
/- Anchors: twice the pairs are all cards just if each card has its partner. -/
namespace Go.Proofs.Ytcedbhgjabheaaa.cards
open Go.RowKit
set_option linter.unusedVariables false

theorem line_sym {x y c : Cd} (hx : x.ok = true) (hy : y.ok = true) (hc : c.ok = true) : line x y c = line y x c := by
  rw [line_third hx hy hc, line_third hy hx hc]
  obtain ⟨⟨x1, x2⟩, ⟨x3, x4⟩, ⟨x5, x6⟩, x7, x8⟩ := Cd.bd hx
  obtain ⟨⟨y1, y2⟩, ⟨y3, y4⟩, ⟨y5, y6⟩, y7, y8⟩ := Cd.bd hy
  obtain ⟨⟨c1, c2⟩, ⟨c3, c4⟩, ⟨c5, c6⟩, c7, c8⟩ := Cd.bd hc
  rw [Bool.eq_iff_iff, Bool.and_eq_true, Bool.and_eq_true, Bool.not_eq_true', Bool.not_eq_true', same_t, same_t, same_f, same_f]
  show (¬ (x.a = c.a ∧ x.b = c.b ∧ x.c = c.c ∧ x.d = c.d) ∧ y.a = (6 - c.a - x.a) % 3 ∧ y.b = (6 - c.b - x.b) % 3 ∧ y.c = (6 - c.c - x.c) % 3 ∧ y.d = (6 - c.d - x.d) % 3) ↔ (¬ (y.a = c.a ∧ y.b = c.b ∧ y.c = c.c ∧ y.d = c.d) ∧ x.a = (6 - c.a - y.a) % 3 ∧ x.b = (6 - c.b - y.b) % 3 ∧ x.c = (6 - c.c - y.c) % 3 ∧ x.d = (6 - c.d - y.d) % 3)
  constructor
  · rintro ⟨h1, h2, h3, h4, h5⟩
    exact ⟨fun h => h1 (by omega), by omega, by omega, by omega, by omega⟩
  · rintro ⟨h1, h2, h3, h4, h5⟩
    exact ⟨fun h => h1 (by omega), by omega, by omega, by omega, by omega⟩
/-- The third card of c and another card is a third one. -/
theorem third_ne {x c : Cd} (hx : x.ok = true) (hc : c.ok = true) (h : same x c = false) : third c x ≠ x := by
  intro e
  obtain ⟨⟨x1, x2⟩, ⟨x3, x4⟩, ⟨x5, x6⟩, x7, x8⟩ := Cd.bd hx
  obtain ⟨⟨c1, c2⟩, ⟨c3, c4⟩, ⟨c5, c6⟩, c7, c8⟩ := Cd.bd hc
  have ea : (6 - c.a - x.a) % 3 = x.a := congrArg Cd.a e
  have eb : (6 - c.b - x.b) % 3 = x.b := congrArg Cd.b e
  have ec : (6 - c.c - x.c) % 3 = x.c := congrArg Cd.c e
  have ed : (6 - c.d - x.d) % 3 = x.d := congrArg Cd.d e
  exact same_f.1 h (by omega)
/-- Has the card at i its partner? -/
def mate (l : List Cd) (c : Cd) (i : Nat) : Bool := match l[i]? with
  | some x => !same x c && there l (third c x)
  | none => false
/-- Has the card at m its partner below k? -/
def down (l : List Cd) (c : Cd) (m k : Nat) : Bool := match l[m]? with
  | some x => !same x c && there l (third c x) && decide (less l (third c x) < k)
  | none => false
/-- How many of the first i cards have their partner. -/
def mates (l : List Cd) (c : Cd) : Nat → Int
  | 0 => 0
  | i + 1 => mates l c i + one (mate l c i)
/-- The pairs among the first k cards whose first is below i. -/
def upto (l : List Cd) (c : Cd) (k : Nat) : Nat → Int
  | 0 => 0
  | i + 1 => upto l c k i + one (lineTo l c i k)
theorem upto_all (l : List Cd) (c : Cd) : ∀ i : Nat, upto l c l.length i = thr l c i
  | 0 => rfl
  | i + 1 => by simp only [upto, thr]; rw [upto_all l c i]
theorem down_step {l : List Cd} {c x y : Cd} {i m : Nat} (hs : sorted l) (hok : l.all Cd.ok = true) (hc : c.ok = true) (hx : l[i]? = some x) (hy : l[m]? = some y) :
    one (down l c m (i + 1)) = one (down l c m i) + one (line x y c) := by
  have ox := ok_at hok hx
  have oy := ok_at hok hy
  rw [line_sym ox oy hc, line_third oy ox hc, same_num ox (third_ok _ _)]
  have hp := place_is (t := third c y) hs hx
  unfold down
  rw [hy]
  simp only
  cases h1 : same y c
  · by_cases h2 : num x = num (third c y)
    · obtain ⟨h3, h4⟩ := hp.1 h2
      rw [h3, h4, decide_eq_true h2]
      simp [one]
    · rw [decide_eq_false h2]
      cases h3 : there l (third c y)
      · rfl
      · have h4 : less l (third c y) ≠ i := fun e => h2 (hp.2 ⟨h3, e⟩)
        have e : decide (less l (third c y) < i + 1) = decide (less l (third c y) < i) := by rw [Bool.eq_iff_iff]; simp; omega
        rw [e]; simp [one]
  · rfl
theorem down_zero (l : List Cd) (c : Cd) (m : Nat) : down l c m 0 = false := by unfold down; split <;> simp
/-- One card more: the pairs that it is the greater one of. -/
theorem upto_step {l : List Cd} {c y : Cd} {m : Nat} (hs : sorted l) (hok : l.all Cd.ok = true) (hc : c.ok = true) (hy : l[m]? = some y) : ∀ i : Nat, i ≤ m →
    upto l c (m + 1) i = upto l c m i + one (down l c m i)
  | 0, _ => by simp [upto, down_zero, one]
  | i + 1, h => by
    have hm := (List.getElem?_eq_some_iff.1 hy).1
    have hx : l[i]? = some l[i] := List.getElem?_eq_getElem (by omega)
    have h1 := upto_step hs hok hc hy i (by omega)
    have h2 := lineTo_step hs hok hc hx hy (by omega : i < m)
    have h3 := down_step (m := m) hs hok hc hx hy
    simp only [upto]
    omega
def downs (l : List Cd) (c : Cd) : Nat → Int
  | 0 => 0
  | m + 1 => downs l c m + one (down l c m m)
theorem upto_downs {l : List Cd} {c : Cd} (hs : sorted l) (hok : l.all Cd.ok = true) (hc : c.ok = true) : ∀ m : Nat, m ≤ l.length → upto l c m m = downs l c m
  | 0, _ => rfl
  | m + 1, h => by
    have hy : l[m]? = some l[m] := List.getElem?_eq_getElem (by omega)
    have h1 := upto_step hs hok hc hy m (Nat.le_refl _)
    have h2 := upto_downs hs hok hc m (by omega)
    have h3 : lineTo l c m (m + 1) = false := lineTo_zero (Nat.le_refl _)
    have h4 : one false = 0 := rfl
    simp only [upto, downs]
    rw [h3]
    omega
theorem mate_parts {l : List Cd} {c : Cd} {i : Nat} (hs : sorted l) (hok : l.all Cd.ok = true) (hc : c.ok = true) (hi : i < l.length) : one (mate l c i) = one (lineTo l c i l.length) + one (down l c i i) := by
  have hx : l[i]? = some l[i] := List.getElem?_eq_getElem hi
  rw [lineTo_all hx]
  unfold mate down
  rw [hx]
  simp only
  cases h1 : same l[i] c
  · cases h2 : there l (third c l[i])
    · rfl
    · have h3 : less l (third c l[i]) ≠ i := fun e => third_ne (ok_at hok hx) hc h1 (num_inj (third_ok _ _) (ok_at hok hx) ((place_is (t := third c l[i]) hs hx).2 ⟨h2, e⟩).symm)
      by_cases h4 : i < less l (third c l[i])
      · have : ¬ less l (third c l[i]) < i := by omega
        simp [one, h4, this]
      · have : less l (third c l[i]) < i := by omega
        simp [one, h4, this]
  · rfl
theorem mates_parts {l : List Cd} {c : Cd} (hs : sorted l) (hok : l.all Cd.ok = true) (hc : c.ok = true) : ∀ i : Nat, i ≤ l.length → mates l c i = thr l c i + downs l c i
  | 0, _ => rfl
  | i + 1, h => by
    have h1 := mates_parts hs hok hc i (by omega)
    have h2 := mate_parts hs hok hc (by omega : i < l.length)
    simp only [mates, thr, downs]
    omega
theorem mates_twice {l : List Cd} {c : Cd} {n : Nat} (hn : l.length = n) (hs : sorted l) (hok : l.all Cd.ok = true) (hc : c.ok = true) : mates l c n = 2 * thr l c n := by
  subst hn
  have h1 := mates_parts hs hok hc l.length (Nat.le_refl _)
  have h2 := upto_downs hs hok hc l.length (Nat.le_refl _)
  have h3 := upto_all l c l.length
  omega
theorem mates_le (l : List Cd) (c : Cd) : ∀ i : Nat, mates l c i ≤ i ∧ (mates l c i = i ↔ ∀ k, k < i → mate l c k = true)
  | 0 => by simp [mates]
  | i + 1 => by
    obtain ⟨h1, h2⟩ := mates_le l c i
    have h3 := one_01 (mate l c i)
    simp only [mates]
    refine ⟨by omega, ?_⟩
    constructor
    · intro h k hk
      have e1 : mates l c i = i := by omega
      have e2 : one (mate l c i) = one true := by rw [show one true = 1 from rfl]; omega
      by_cases hki : k < i
      · exact h2.1 e1 k hki
      · obtain rfl : k = i := by omega
        exact one_inj e2
    · intro h
      have e1 := h2.2 (fun k hk => h k (by omega))
      have e2 := h i (by omega)
      rw [e2, show one true = 1 from rfl]; omega
/-- Is the card an anchor of a hand? -/
def anchor (l : List Cd) (c : Cd) : Bool := (List.range l.length).all fun i => mate l c i
theorem anchor_iff {l : List Cd} {c : Cd} : anchor l c = true ↔ ∀ k, k < l.length → mate l c k = true := by
  unfold anchor
  rw [List.all_eq_true]
  simp
theorem anchor_twice {l : List Cd} {c : Cd} {n : Nat} (hn : l.length = n) (hs : sorted l) (hok : l.all Cd.ok = true) (hc : c.ok = true) : decide (2 * thr l c n = n) = anchor l c := by
  rw [Bool.eq_iff_iff, decide_eq_true_eq, ← mates_twice hn hs hok hc, (mates_le l c n).2, anchor_iff, hn]
theorem anchor_no {l : List Cd} {c : Cd} {k : Nat} (hk : k < l.length) (h : mate l c k = false) : anchor l c = false := by
  rw [Bool.eq_false_iff]; intro hh
  rw [anchor_iff.1 hh k hk] at h; cases h
/-- The numbers of the cards of which P is true. -/
def nums (P : Cd → Bool) (k : Nat) : List Int := ((List.range k).filter fun i : Nat => P (cdAt (i : Int))).map fun i : Nat => (i : Int)
theorem nums_zero (P : Cd → Bool) : nums P 0 = [] := rfl
theorem nums_yes {P : Cd → Bool} {k : Nat} (h : P (cdAt (k : Int)) = true) : nums P (k + 1) = nums P k ++ [(k : Int)] := by
  unfold nums; rw [List.range_succ, List.filter_append, List.map_append, List.filter_cons_of_pos (by simpa using h)]; rfl
theorem nums_no {P : Cd → Bool} {k : Nat} (h : P (cdAt (k : Int)) = false) : nums P (k + 1) = nums P k := by
  unfold nums; rw [List.range_succ, List.filter_append, List.map_append, List.filter_cons_of_neg (by simp [h])]; simp
theorem nums_len (P : Cd → Bool) (k : Nat) : (nums P k).length ≤ k := by
  unfold nums; rw [List.length_map]; exact Nat.le_trans (List.length_filter_le _ _) (by simp)
theorem cdAt_ok {n : Int} (h0 : 0 ≤ n) (h1 : n ≤ 80) : (cdAt n).ok = true := Cd.mk_ok (by unfold cdAt; simp only; omega)
theorem nums_ext {P Q : Cd → Bool} {k : Nat} (h : ∀ i : Nat, i < k → P (cdAt (i : Int)) = Q (cdAt (i : Int))) : nums P k = nums Q k := by
  unfold nums
  congr 1
  apply List.filter_congr
  intro i hi
  exact h i (List.mem_range.1 hi)
end Go.Proofs.Ytcedbhgjabheaaa.cards

/- Is a card there? The model. -/
namespace Go.Proofs.Ytcedbhgjabheaaa.cards
open Go.RowKit
set_option linter.unusedVariables false

set_option maxRecDepth 100000 in
set_option maxHeartbeats 2000000 in
theorem l2_has (l : List Cd) (c : Cd) (p : Option Addr) (n cp : Nat) (w : World) (hn : l.length = n) (hl : n ≤ 1000) (hr : Rd w p (flat l)) (hok : l.all Cd.ok = true) (hc : c.ok = true) (hs : sorted l) :
    Calls Try.prog 58 #[.slice p n cp, c.val] w fun e w' => e = .returned (.bool (there l c)) ∧ Below w.heap.size w w' := by
  have HN := Lib.hid hn
  have HR := Lib.hid hr
  have HP := Lib.hid (fun w' (hw : Rd w' p (flat l)) => l2_place l c p n cp w' hn hl hw hok hc hs)
  clear hn hr hok hc hs
  go_enter Try.func58, Try.ntmps58
  cases ht : there l c
  · have HQ := HP.out
    unfold place at HQ
    rw [if_neg (by simp [ht])] at HQ
    have HQ2 := Lib.hid HQ
    clear HQ HP ht
    go_wp2_with fail
    refine ((HQ2.out _ (by repeat (first | with_reducible exact HR.out | with_reducible apply Rd.drewN | with_reducible apply Rd.drew | with_reducible apply Rd.alloc)))).mono ?_
    rintro e w1 ⟨rfl, b⟩
    have Sw1 := Lib.hid b.size
    have HB := Lib.hid (chain0 (w := w) (by repeat (first | with_reducible exact Below.refl _ _ | with_reducible exact HB.out | with_reducible apply Below.drew | with_reducible apply bdN | with_reducible refine Below.alloc ?_ (by first | exact Nat.le_refl _ | with_reducible exact HB.out.size | omega | (simp; done) | (simp; omega) | (have := HB.out.size; simp at *; omega)) _ | with_reducible refine Below.setCell ?_ (by first | exact Nat.le_refl _ | with_reducible exact HB.out.size | omega | (simp; done) | (simp; omega) | (have := HB.out.size; simp at *; omega)) _)) b)
    have HR := Lib.hid (Rd.below (by repeat (first | with_reducible exact HR.out | with_reducible apply Rd.drewN | with_reducible apply Rd.drew | with_reducible apply Rd.alloc)) b)
    have K0 : Hid (Box _ (w.heap.size) (c)) := Lib.hid (Box.below (by repeat (first | with_reducible exact K0.out | with_reducible apply Box.drewN | with_reducible apply Box.drew | (with_reducible refine Box.newAt ?_ ?_ <;> first | (simp; done) | rfl) | with_reducible apply Box.alloc)) b)
    try clear k0a k0b k0c k0d k0z
    have k0z := K0.out.lt
    obtain ⟨k0a, k0b, k0c, k0d⟩ := K0.out.cell
    clear b
    go_wp2_with fail
    go_ret
    exact ⟨rfl, by repeat (first | with_reducible exact Below.refl _ _ | with_reducible exact HB.out | with_reducible apply Below.drew | with_reducible apply bdN | with_reducible refine Below.alloc ?_ (by first | exact Nat.le_refl _ | with_reducible exact HB.out.size | omega | (simp; done) | (simp; omega) | (have := HB.out.size; simp at *; omega)) _ | with_reducible refine Below.setCell ?_ (by first | exact Nat.le_refl _ | with_reducible exact HB.out.size | omega | (simp; done) | (simp; omega) | (have := HB.out.size; simp at *; omega)) _)⟩
  · have HQ := HP.out
    unfold place at HQ
    rw [if_pos ht] at HQ
    obtain ⟨q, hq⟩ : ∃ q, less l c = q := ⟨_, rfl⟩
    rw [hq] at HQ
    have HQ2 := Lib.hid HQ
    clear HQ HP ht hq
    go_wp2_with fail
    refine ((HQ2.out _ (by repeat (first | with_reducible exact HR.out | with_reducible apply Rd.drewN | with_reducible apply Rd.drew | with_reducible apply Rd.alloc)))).mono ?_
    rintro e w1 ⟨rfl, b⟩
    have Sw1 := Lib.hid b.size
    have HB := Lib.hid (chain0 (w := w) (by repeat (first | with_reducible exact Below.refl _ _ | with_reducible exact HB.out | with_reducible apply Below.drew | with_reducible apply bdN | with_reducible refine Below.alloc ?_ (by first | exact Nat.le_refl _ | with_reducible exact HB.out.size | omega | (simp; done) | (simp; omega) | (have := HB.out.size; simp at *; omega)) _ | with_reducible refine Below.setCell ?_ (by first | exact Nat.le_refl _ | with_reducible exact HB.out.size | omega | (simp; done) | (simp; omega) | (have := HB.out.size; simp at *; omega)) _)) b)
    have HR := Lib.hid (Rd.below (by repeat (first | with_reducible exact HR.out | with_reducible apply Rd.drewN | with_reducible apply Rd.drew | with_reducible apply Rd.alloc)) b)
    have K0 : Hid (Box _ (w.heap.size) (c)) := Lib.hid (Box.below (by repeat (first | with_reducible exact K0.out | with_reducible apply Box.drewN | with_reducible apply Box.drew | (with_reducible refine Box.newAt ?_ ?_ <;> first | (simp; done) | rfl) | with_reducible apply Box.alloc)) b)
    try clear k0a k0b k0c k0d k0z
    have k0z := K0.out.lt
    obtain ⟨k0a, k0b, k0c, k0d⟩ := K0.out.cell
    clear b
    go_wp2_with fail
    go_ret
    exact ⟨ret_bool (by simp), by repeat (first | with_reducible exact Below.refl _ _ | with_reducible exact HB.out | with_reducible apply Below.drew | with_reducible apply bdN | with_reducible refine Below.alloc ?_ (by first | exact Nat.le_refl _ | with_reducible exact HB.out.size | omega | (simp; done) | (simp; omega) | (have := HB.out.size; simp at *; omega)) _ | with_reducible refine Below.setCell ?_ (by first | exact Nat.le_refl _ | with_reducible exact HB.out.size | omega | (simp; done) | (simp; omega) | (have := HB.out.size; simp at *; omega)) _)⟩
end Go.Proofs.Ytcedbhgjabheaaa.cards

/- The rest of a hand: the program's and the model's. -/
namespace Go.Proofs.Ytcedbhgjabheaaa.chance
open Go.RowKit
open cards
set_option linter.unusedVariables false

/-- The cards below number k that a hand has not. -/
noncomputable def rst (l : List Cd) (k : Nat) : List Cd := ((List.range k).filter fun i : Nat => !there l (cdAt (i : Int))).map fun i : Nat => cdAt (i : Int)
theorem rst_zero (l : List Cd) : rst l 0 = [] := rfl
theorem rst_yes {l : List Cd} {k : Nat} (h : there l (cdAt (k : Int)) = false) : rst l (k + 1) = rst l k ++ [cdAt (k : Int)] := by
  unfold rst
  rw [List.range_succ, List.filter_append, List.map_append]
  simp [h]
theorem rst_no {l : List Cd} {k : Nat} (h : there l (cdAt (k : Int)) = true) : rst l (k + 1) = rst l k := by
  unfold rst
  rw [List.range_succ, List.filter_append, List.map_append]
  simp [h]
theorem rst_len (l : List Cd) (k : Nat) : (rst l k).length ≤ k := by
  unfold rst
  rw [List.length_map]
  exact Nat.le_trans (List.length_filter_le _ _) (by rw [List.length_range]; exact Nat.le_refl _)
theorem rst_ok (l : List Cd) {k : Nat} (h : k ≤ 81) : (rst l k).all Cd.ok = true := List.all_eq_true.2 fun x hx => by
  unfold rst at hx
  obtain ⟨i, hi, rfl⟩ := List.mem_map.1 hx
  have := List.mem_range.1 (List.mem_filter.1 hi).1
  exact cdAt_ok (by omega) (by omega)

set_option maxRecDepth 100000 in
set_option maxHeartbeats 1000000 in
theorem l2_at (n : Int) (w : World) (h0 : 0 ≤ n) (h1 : n ≤ 80) :
    Calls Try.prog 89 #[.int .i64 n] w fun e w' => e = .returned (cdAt n).val ∧ Below w.heap.size w w' := by
  go_enter Try.func89, Try.ntmps89
  go_wp2
  exact bodyPost_ret (v := (cdAt n).val) (by simp [results, Try.results89, go_sem, cdAt, *]) rfl ⟨rfl, by repeat (first | with_reducible exact Below.refl _ _ | with_reducible exact HB.out | with_reducible apply Below.drew | with_reducible apply bdN | with_reducible refine Below.alloc ?_ (by first | exact Nat.le_refl _ | with_reducible exact HB.out.size | omega | (simp; done) | (simp; omega) | (have := HB.out.size; simp at *; omega)) _ | with_reducible refine Below.setCell ?_ (by first | exact Nat.le_refl _ | with_reducible exact HB.out.size | omega | (simp; done) | (simp; omega) | (have := HB.out.size; simp at *; omega)) _)⟩

set_option maxRecDepth 100000 in
set_option maxHeartbeats 4000000 in
theorem rest_of (l : List Cd) (p : Option Addr) (n cp : Nat) (w : World) (hn : l.length = n) (hl : n ≤ 1000) (hr : Rd w p (flat l)) (hok : l.all Cd.ok = true) (hs : sorted l) :
    Calls Try.prog 50 #[.slice p n cp] w fun e w' => ∃ u, e = .returned u ∧ Own w' w.heap.size u (rst l 81) ∧ Below w.heap.size w w' := by
  have HN := Lib.hid hn
  have HR0 := Lib.hid hr
  have HS := Lib.hid hs
  have HK := Lib.hid hok
  clear hn hr hs hok
  go_enter Try.func50, Try.ntmps50
  go_wp2_with fail
  go_loopw [3, 9] (fun o i wr => ∃ k : Nat, k ≤ 81 ∧ i = .int .i64 k ∧ Hid (Own wr w.heap.size o (rst l k)) ∧ Hid (Below w.heap.size w wr)) (fun _ i _ => 81 - (intOf i).toNat)
  case atStart => exact ⟨0, Nat.zero_le _, rfl, Lib.hid (Own.empty w w.heap.size (Nat.le_refl _)), Lib.hid (by repeat (first | with_reducible exact Below.refl _ _ | with_reducible exact HB.out | with_reducible apply Below.drew | with_reducible apply bdN | with_reducible refine Below.alloc ?_ (by first | exact Nat.le_refl _ | with_reducible exact HB.out.size | omega | (simp; done) | (simp; omega) | (have := HB.out.size; simp at *; omega)) _ | with_reducible refine Below.setCell ?_ (by first | exact Nat.le_refl _ | with_reducible exact HB.out.size | omega | (simp; done) | (simp; omega) | (have := HB.out.size; simp at *; omega)) _))⟩
  case round =>
    obtain ⟨k, hk, rfl, HO, HB⟩ := hrel
    by_cases hlt : k < 81
    · have HR := Lib.hid (HR0.out.below HB.out)
      have m0 : (0 : Int) ≤ (k : Int) := by omega
      have m1 : (k : Int) < 81 := by omega
      have HC := Lib.hid (cdAt_ok (n := (k : Int)) m0 (by omega))
      have HLn := Lib.hid (rst_len l k)
      go_wp2_with fail
      refine ((card_of (k : Int) _ m0 (by omega))).mono ?_
      rintro e w2 ⟨rfl, b⟩
      have Sw2 := Lib.hid b.size
      have HB := Lib.hid (chain0 (w := w) (by repeat (first | with_reducible exact Below.refl _ _ | with_reducible exact HB.out | with_reducible apply Below.drew | with_reducible apply bdN | with_reducible refine Below.alloc ?_ (by first | exact Nat.le_refl _ | with_reducible exact HB.out.size | omega | (simp; done) | (simp; omega) | (have := HB.out.size; simp at *; omega)) _ | with_reducible refine Below.setCell ?_ (by first | exact Nat.le_refl _ | with_reducible exact HB.out.size | omega | (simp; done) | (simp; omega) | (have := HB.out.size; simp at *; omega)) _)) b)
      have HR := Lib.hid (Rd.below (by repeat (first | with_reducible exact HR.out | with_reducible apply Rd.drewN | with_reducible apply Rd.drew | with_reducible apply Rd.alloc)) b)
      have HO := Lib.hid (Own.below (by repeat (first | with_reducible exact HO.out | with_reducible apply Own.drewN | with_reducible apply Own.drew | with_reducible apply Own.alloc)) b)
      clear b
      have HP := fun w' (hr : Rd w' p (flat l)) => place_in l (cdAt (k : Int)) p n cp w' HN.out hl hr HK.out HC.out HS.out
      cases ht : there l (cdAt (k : Int))
      · rw [ht] at HP
        have HE := Lib.hid (rst_yes ht)
        have HP2 := Lib.hid HP
        clear HP ht
        go_wp2_with fail
        refine ((HP2.out _ (by repeat (first | with_reducible exact HR.out | with_reducible apply Rd.drewN | with_reducible apply Rd.drew | with_reducible apply Rd.alloc)))).mono ?_
        rintro e w3 ⟨rfl, b⟩
        have Sw3 := Lib.hid b.size
        have HB := Lib.hid (chain0 (w := w) (by repeat (first | with_reducible exact Below.refl _ _ | with_reducible exact HB.out | with_reducible apply Below.drew | with_reducible apply bdN | with_reducible refine Below.alloc ?_ (by first | exact Nat.le_refl _ | with_reducible exact HB.out.size | omega | (simp; done) | (simp; omega) | (have := HB.out.size; simp at *; omega)) _ | with_reducible refine Below.setCell ?_ (by first | exact Nat.le_refl _ | with_reducible exact HB.out.size | omega | (simp; done) | (simp; omega) | (have := HB.out.size; simp at *; omega)) _)) b)
        have HR := Lib.hid (Rd.below (by repeat (first | with_reducible exact HR.out | with_reducible apply Rd.drewN | with_reducible apply Rd.drew | with_reducible apply Rd.alloc)) b)
        have HO := Lib.hid (Own.below (by repeat (first | with_reducible exact HO.out | with_reducible apply Own.drewN | with_reducible apply Own.drew | with_reducible apply Own.alloc)) b)
        have K1 : Hid (Box _ (w2.heap.size) ((cdAt (k : Int)))) := Lib.hid (Box.below (by repeat (first | with_reducible exact K1.out | with_reducible apply Box.drewN | with_reducible apply Box.drew | (with_reducible refine Box.newAt ?_ ?_ <;> first | (simp; done) | rfl) | with_reducible apply Box.alloc)) b)
        try clear k1a k1b k1c k1d k1z
        have k1z := K1.out.lt
        obtain ⟨k1a, k1b, k1c, k1d⟩ := K1.out.cell
        clear b
        go_wp2_with (at_builtin; refine append_cd rfl (.tmp 22) (.tmp 24) rfl w.heap.size _ (rst l k) (cdAt (k : Int)) _ _ rfl rfl rfl HO.out (by have := HLn.out; omega) HB.out.size ?_; intro v1 w5 hO1 hB1)
        rw [← HE.out] at hO1
        go_roundw
        case rel => exact ⟨k + 1, by omega, by go_num, hO1, HB.out.trans hB1⟩
        case measure => simp [intOf]; omega
      · rw [ht] at HP
        have HE := Lib.hid (rst_no ht)
        have HP2 := Lib.hid HP
        clear HP ht
        go_wp2_with fail
        refine ((HP2.out _ (by repeat (first | with_reducible exact HR.out | with_reducible apply Rd.drewN | with_reducible apply Rd.drew | with_reducible apply Rd.alloc)))).mono ?_
        rintro e w3 ⟨rfl, b⟩
        have Sw3 := Lib.hid b.size
        have HB := Lib.hid (chain0 (w := w) (by repeat (first | with_reducible exact Below.refl _ _ | with_reducible exact HB.out | with_reducible apply Below.drew | with_reducible apply bdN | with_reducible refine Below.alloc ?_ (by first | exact Nat.le_refl _ | with_reducible exact HB.out.size | omega | (simp; done) | (simp; omega) | (have := HB.out.size; simp at *; omega)) _ | with_reducible refine Below.setCell ?_ (by first | exact Nat.le_refl _ | with_reducible exact HB.out.size | omega | (simp; done) | (simp; omega) | (have := HB.out.size; simp at *; omega)) _)) b)
        have HR := Lib.hid (Rd.below (by repeat (first | with_reducible exact HR.out | with_reducible apply Rd.drewN | with_reducible apply Rd.drew | with_reducible apply Rd.alloc)) b)
        have HO := Lib.hid (Own.below (by repeat (first | with_reducible exact HO.out | with_reducible apply Own.drewN | with_reducible apply Own.drew | with_reducible apply Own.alloc)) b)
        have K1 : Hid (Box _ (w2.heap.size) ((cdAt (k : Int)))) := Lib.hid (Box.below (by repeat (first | with_reducible exact K1.out | with_reducible apply Box.drewN | with_reducible apply Box.drew | (with_reducible refine Box.newAt ?_ ?_ <;> first | (simp; done) | rfl) | with_reducible apply Box.alloc)) b)
        try clear k1a k1b k1c k1d k1z
        have k1z := K1.out.lt
        obtain ⟨k1a, k1b, k1c, k1d⟩ := K1.out.cell
        clear b
        go_wp2_with fail
        go_roundw
        case rel => exact ⟨k + 1, by omega, by go_num, by rw [HE.out]; exact HO, HB⟩
        case measure => simp [intOf]; omega
    · obtain rfl : k = 81 := by omega
      go_wp2_with fail
      go_ret
      exact ⟨_, rfl, HO.out, HB.out⟩

set_option maxRecDepth 100000 in
set_option maxHeartbeats 4000000 in
theorem l9_rest (l : List Cd) (p : Option Addr) (n cp : Nat) (w : World) (hn : l.length = n) (hl : n ≤ 1000) (hr : Rd w p (flat l)) (hok : l.all Cd.ok = true) (hs : sorted l) :
    Calls Try.prog 56 #[.slice p n cp] w fun e w' => ∃ u, e = .returned u ∧ Own w' w.heap.size u (rst l 81) ∧ Below w.heap.size w w' := by
  have HN := Lib.hid hn
  have HR0 := Lib.hid hr
  have HS := Lib.hid hs
  have HK := Lib.hid hok
  clear hn hr hs hok
  go_enter Try.func56, Try.ntmps56
  go_wp2_with fail
  go_loopw [3, 4] (fun o i wr => ∃ k : Nat, k ≤ 81 ∧ i = .int .i64 k ∧ Hid (Own wr w.heap.size o (rst l k)) ∧ Hid (Below w.heap.size w wr)) (fun _ i _ => 81 - (intOf i).toNat)
  case atStart => exact ⟨0, Nat.zero_le _, rfl, Lib.hid (Own.empty w w.heap.size (Nat.le_refl _)), Lib.hid (by repeat (first | with_reducible exact Below.refl _ _ | with_reducible exact HB.out | with_reducible apply Below.drew | with_reducible apply bdN | with_reducible refine Below.alloc ?_ (by first | exact Nat.le_refl _ | with_reducible exact HB.out.size | omega | (simp; done) | (simp; omega) | (have := HB.out.size; simp at *; omega)) _ | with_reducible refine Below.setCell ?_ (by first | exact Nat.le_refl _ | with_reducible exact HB.out.size | omega | (simp; done) | (simp; omega) | (have := HB.out.size; simp at *; omega)) _))⟩
  case round =>
    obtain ⟨k, hk, rfl, HO, HB⟩ := hrel
    by_cases hlt : k < 81
    · have HR := Lib.hid (HR0.out.below HB.out)
      have m0 : (0 : Int) ≤ (k : Int) := by omega
      have m1 : (k : Int) < 81 := by omega
      have HC := Lib.hid (cdAt_ok (n := (k : Int)) m0 (by omega))
      have HLn := Lib.hid (rst_len l k)
      go_wp2_with fail
      refine ((l2_at (k : Int) _ m0 (by omega))).mono ?_
      rintro e w2 ⟨rfl, b⟩
      have Sw2 := Lib.hid b.size
      have HB := Lib.hid (chain0 (w := w) (by repeat (first | with_reducible exact Below.refl _ _ | with_reducible exact HB.out | with_reducible apply Below.drew | with_reducible apply bdN | with_reducible refine Below.alloc ?_ (by first | exact Nat.le_refl _ | with_reducible exact HB.out.size | omega | (simp; done) | (simp; omega) | (have := HB.out.size; simp at *; omega)) _ | with_reducible refine Below.setCell ?_ (by first | exact Nat.le_refl _ | with_reducible exact HB.out.size | omega | (simp; done) | (simp; omega) | (have := HB.out.size; simp at *; omega)) _)) b)
      have HR := Lib.hid (Rd.below (by repeat (first | with_reducible exact HR.out | with_reducible apply Rd.drewN | with_reducible apply Rd.drew | with_reducible apply Rd.alloc)) b)
      have HO := Lib.hid (Own.below (by repeat (first | with_reducible exact HO.out | with_reducible apply Own.drewN | with_reducible apply Own.drew | with_reducible apply Own.alloc)) b)
      clear b
      have HP := fun w' (hr : Rd w' p (flat l)) => l2_has l (cdAt (k : Int)) p n cp w' HN.out hl hr HK.out HC.out HS.out
      cases ht : there l (cdAt (k : Int))
      · rw [ht] at HP
        have HE := Lib.hid (rst_yes ht)
        have HP2 := Lib.hid HP
        clear HP ht
        go_wp2_with fail
        refine ((HP2.out _ (by repeat (first | with_reducible exact HR.out | with_reducible apply Rd.drewN | with_reducible apply Rd.drew | with_reducible apply Rd.alloc)))).mono ?_
        rintro e w3 ⟨rfl, b⟩
        have Sw3 := Lib.hid b.size
        have HB := Lib.hid (chain0 (w := w) (by repeat (first | with_reducible exact Below.refl _ _ | with_reducible exact HB.out | with_reducible apply Below.drew | with_reducible apply bdN | with_reducible refine Below.alloc ?_ (by first | exact Nat.le_refl _ | with_reducible exact HB.out.size | omega | (simp; done) | (simp; omega) | (have := HB.out.size; simp at *; omega)) _ | with_reducible refine Below.setCell ?_ (by first | exact Nat.le_refl _ | with_reducible exact HB.out.size | omega | (simp; done) | (simp; omega) | (have := HB.out.size; simp at *; omega)) _)) b)
        have HR := Lib.hid (Rd.below (by repeat (first | with_reducible exact HR.out | with_reducible apply Rd.drewN | with_reducible apply Rd.drew | with_reducible apply Rd.alloc)) b)
        have HO := Lib.hid (Own.below (by repeat (first | with_reducible exact HO.out | with_reducible apply Own.drewN | with_reducible apply Own.drew | with_reducible apply Own.alloc)) b)
        have K1 : Hid (Box _ (w2.heap.size) ((cdAt (k : Int)))) := Lib.hid (Box.below (by repeat (first | with_reducible exact K1.out | with_reducible apply Box.drewN | with_reducible apply Box.drew | (with_reducible refine Box.newAt ?_ ?_ <;> first | (simp; done) | rfl) | with_reducible apply Box.alloc)) b)
        try clear k1a k1b k1c k1d k1z
        have k1z := K1.out.lt
        obtain ⟨k1a, k1b, k1c, k1d⟩ := K1.out.cell
        clear b
        go_wp2_with (at_builtin; refine append_cd rfl (.tmp 17) (.tmp 19) rfl w.heap.size _ (rst l k) (cdAt (k : Int)) _ _ rfl rfl rfl HO.out (by have := HLn.out; omega) HB.out.size ?_; intro v1 w5 hO1 hB1)
        rw [← HE.out] at hO1
        go_roundw
        case rel => exact ⟨k + 1, by omega, by go_num, hO1, HB.out.trans hB1⟩
        case measure => simp [intOf]; omega
      · rw [ht] at HP
        have HE := Lib.hid (rst_no ht)
        have HP2 := Lib.hid HP
        clear HP ht
        go_wp2_with fail
        refine ((HP2.out _ (by repeat (first | with_reducible exact HR.out | with_reducible apply Rd.drewN | with_reducible apply Rd.drew | with_reducible apply Rd.alloc)))).mono ?_
        rintro e w3 ⟨rfl, b⟩
        have Sw3 := Lib.hid b.size
        have HB := Lib.hid (chain0 (w := w) (by repeat (first | with_reducible exact Below.refl _ _ | with_reducible exact HB.out | with_reducible apply Below.drew | with_reducible apply bdN | with_reducible refine Below.alloc ?_ (by first | exact Nat.le_refl _ | with_reducible exact HB.out.size | omega | (simp; done) | (simp; omega) | (have := HB.out.size; simp at *; omega)) _ | with_reducible refine Below.setCell ?_ (by first | exact Nat.le_refl _ | with_reducible exact HB.out.size | omega | (simp; done) | (simp; omega) | (have := HB.out.size; simp at *; omega)) _)) b)
        have HR := Lib.hid (Rd.below (by repeat (first | with_reducible exact HR.out | with_reducible apply Rd.drewN | with_reducible apply Rd.drew | with_reducible apply Rd.alloc)) b)
        have HO := Lib.hid (Own.below (by repeat (first | with_reducible exact HO.out | with_reducible apply Own.drewN | with_reducible apply Own.drew | with_reducible apply Own.alloc)) b)
        have K1 : Hid (Box _ (w2.heap.size) ((cdAt (k : Int)))) := Lib.hid (Box.below (by repeat (first | with_reducible exact K1.out | with_reducible apply Box.drewN | with_reducible apply Box.drew | (with_reducible refine Box.newAt ?_ ?_ <;> first | (simp; done) | rfl) | with_reducible apply Box.alloc)) b)
        try clear k1a k1b k1c k1d k1z
        have k1z := K1.out.lt
        obtain ⟨k1a, k1b, k1c, k1d⟩ := K1.out.cell
        clear b
        go_wp2_with fail
        go_roundw
        case rel => exact ⟨k + 1, by omega, by go_num, by rw [HE.out]; exact HO, HB⟩
        case measure => simp [intOf]; omega
    · obtain rfl : k = 81 := by omega
      go_wp2_with fail
      go_ret
      exact ⟨_, rfl, HO.out, HB.out⟩
end Go.Proofs.Ytcedbhgjabheaaa.chance

/- ChanceKind: of all pairs of the deck, as many differ in each number of traits. -/
namespace Go.Proofs.Ytcedbhgjabheaaa.chance
open Go.RowKit
open cards reg
set_option linter.unusedVariables false

def deck : List Cd := (List.range 81).map fun i : Nat => cdAt (i : Int)
theorem rst_nil : rst [] 81 = deck := by
  unfold rst deck
  congr 1
/-- Two cards differ in k traits. -/
def kd2 (k : Int) (d : List Cd) : Bool := decide ((dif2 d : Int) = k)
theorem kd_1 : tot (fun d => nat (kd2 1 d)) 2 deck [] = 324 := by decide +kernel
theorem kd_2 : tot (fun d => nat (kd2 2 d)) 2 deck [] = 972 := by decide +kernel
theorem kd_3 : tot (fun d => nat (kd2 3 d)) 2 deck [] = 1296 := by decide +kernel
theorem kd_4 : tot (fun d => nat (kd2 4 d)) 2 deck [] = 648 := by decide +kernel
theorem cho_81 : cho 81 2 = 3240 := by decide +kernel
end Go.Proofs.Ytcedbhgjabheaaa.chance

/- ChanceKind: the program's and the model's. -/
namespace Go.Proofs.Ytcedbhgjabheaaa.chance
open Go.RowKit
open cards reg
set_option linter.unusedVariables false

def ckR (k : Int) : (Int × Int) × Bool := if k = 1 then (frac 8 80, true) else if k = 2 then (frac 24 80, true) else if k = 3 then (frac 32 80, true) else if k = 4 then (frac 16 80, true) else ((0, 0), false)
theorem ckR_no {k : Int} (h : k < 1 ∨ 4 < k) : ckR k = ((0, 0), false) := by
  unfold ckR
  rw [if_neg (by omega), if_neg (by omega), if_neg (by omega), if_neg (by omega)]
theorem ckR_yes {k : Int} (h : 1 ≤ k ∧ k ≤ 4) : ckR k = mdR (tot (fun d => nat (kd2 k d)) 2 deck []) (cho 81 2) := by
  rw [cho_81]
  rcases (show k = 1 ∨ k = 2 ∨ k = 3 ∨ k = 4 by omega) with rfl | rfl | rfl | rfl
  · rw [kd_1, mdR_1 (by omega)]; exact congrArg (·, true) (frac_eq (by omega) (by omega) (by decide))
  · rw [kd_2, mdR_1 (by omega)]; exact congrArg (·, true) (frac_eq (by omega) (by omega) (by decide))
  · rw [kd_3, mdR_1 (by omega)]; exact congrArg (·, true) (frac_eq (by omega) (by omega) (by decide))
  · rw [kd_4, mdR_1 (by omega)]; exact congrArg (·, true) (frac_eq (by omega) (by omega) (by decide))

theorem exec_eqI {u v : Int} {a : Act} {o : Oper} {p q : Operand} {s : TypeId} (ho : o.op = .binOp .eql 3 p q s) (hp : a.eval p = .int .i64 u) (hq : a.eval q = .int .i64 v) (w : World) :
    (execOp a.eval o).run Try.prog w = .ok (.value (.bool (u == v))) w := by
  unfold execOp
  rw [ho]
  simp only [hp, hq]
  go_simp
theorem exec_asg {x : Value} {a : Act} {o : Oper} {p : Operand} (ho : o.op = .assign p) (hp : a.eval p = x) (w : World) : (execOp a.eval o).run Try.prog w = .ok (.value x) w := by
  unfold execOp
  rw [ho]
  simp only [hp]
  go_simp
theorem load_intC {w : World} {g j : Nat} {x : Int} (h : w.cell? ⟨g, j, none⟩ = some (.int .i64 x)) : (loadVar 3 ⟨g, j, none⟩).run Try.prog w = .ok (.int .i64 x) w := by
  go_simp
set_option maxRecDepth 100000 in
set_option maxHeartbeats 2000000 in
theorem fit_kind (w0 : World) (L : List Cd) (k : Int) (gk : Nat) (hL : L.all Cd.ok = true) (hk : VB w0 gk 3 #[.int .i64 k]) : FitAt 51 #[] #[.pointer (some ⟨gk, 0, none⟩)] w0 L 2 (kd2 k) := by
  refine ⟨fun args w => by kernel_rfl, fun w ps g m c hb hr hsub hm hn hmc => ?_⟩
  subst hn
  have hko := ok_sub hL hsub
  obtain ⟨x, y, rfl⟩ : ∃ x y, ps = [x, y] := by
    match ps, hm with
    | [x, y], _ => exact ⟨x, y, rfl⟩
  simp at hko
  have c0 : w.cell? ⟨gk, 0, none⟩ = some (.int .i64 k) := VB.at_ (hk.under hk.lt hb) (j := 0) rfl
  have hT : kd2 k [x, y] = (dif x y == k) := by
    have e : ((dif2 [x, y] : Nat) : Int) = dif x y := by have := (dif_nn x y).1; simp only [dif2]; omega
    unfold kd2
    rw [e]
    by_cases h : dif x y = k <;> simp [h]
  rw [hT]
  have HGk := Lib.hid (Nat.lt_of_lt_of_le hk.lt hb.size)
  have HD := Lib.hid (fun w hr => drawn_differ x y g c w hr hko.1 hko.2)
  have HR := Lib.hid hr
  generalize dif x y = q at *
  clear hk hb hr hsub hko hL hT
  show Calls Try.prog 51 #[.slice (some ⟨g, 0, none⟩) 2 c, .pointer (some ⟨gk, 0, none⟩)] w _
  go_enter Try.func51, Try.ntmps51
  go_upto_region 1 with fail
  refine region_seq [0, 2] [1, 3, 4] (by kernel_rfl) (by kernel_rfl) rfl (by kernel_rfl) (fun w' => w'.cell? ⟨gk, 0, none⟩ = some (.int .i64 k)) (fun w' h => (Below.cell h (p := ⟨gk, 0, none⟩) HGk.out).trans c0) ?_
  refine j_pure 4 (v := .slice (some ⟨g, 0, none⟩) 2 c) rfl rfl rfl (fun w => by kernel_rfl) ?_
  refine j_cell 6 (v := .int .i64 k) rfl rfl rfl rfl (by kernel_rfl) (fun w' h => load_intC h) ?_
  intro wa hI
  refine u_call (f := 52) (args := #[.slice (some ⟨g, 0, none⟩) 2 c]) rfl rfl (by kernel_rfl) ((HD.out wa (HR.out.below hI)).mono ?_)
  rintro e wb ⟨rfl, b⟩
  have hI2 := BI.next hI b
  have hc2 := (Below.cell hI2 (p := ⟨gk, 0, none⟩) HGk.out).trans c0
  refine ⟨_, rfl, hc2, ?_⟩
  refine u_val (v := .bool (q == k)) rfl rfl (exec_eqI (u := q) (v := k) rfl (by kernel_rfl) (by kernel_rfl) wb) hc2 ?_
  refine u_val (v := .bool (q == k)) rfl rfl (exec_asg rfl (by kernel_rfl) wb) hc2 ?_
  simp only [runsU, List.getElem_toArray, List.getElem_cons_succ, List.getElem_cons_zero, Act.put, List.setIfInBounds_toArray, List.set_cons_zero, List.set_cons_succ]
  have HF : Hid (Below w.heap.size w wb) := Lib.hid hI2
  clear hc2 hI2 hI b
  go_wp2_with fail
  go_ret
  exact ⟨rfl, HF.out⟩

set_option maxRecDepth 100000 in
set_option maxHeartbeats 4000000 in
theorem impl_ck (k : Int) (w : World) : Calls Try.prog 21 #[.int .i64 k] w fun e w' => e = .returned (.tuple #[.agg (fv (ckR k).1), .bool (ckR k).2]) ∧ Below w.heap.size w w' := by
  have KK : Hid (VB ((w.alloc (.cells #[.int .i64 k] 3)).alloc (.cells (fv (0, 0)) 24)) w.heap.size 3 #[.int .i64 k]) := Lib.hid ((VB.newAt rfl rfl).alloc _)
  have K0 : Hid (VB ((w.alloc (.cells #[.int .i64 k] 3)).alloc (.cells (fv (0, 0)) 24)) (w.heap.size + 1) 24 (fv (0, 0))) := Lib.hid (VB.newAt (by simp) rfl)
  have HB : Hid (Below w.heap.size w ((w.alloc (.cells #[.int .i64 k] 3)).alloc (.cells (fv (0, 0)) 24))) := Lib.hid (((Below.refl _ _).alloc (Nat.le_refl _) _).alloc (by simp) _)
  have c0 : ((w.alloc (.cells #[.int .i64 k] 3)).alloc (.cells #[.int .i64 0, .int .i64 0] 24)).cell? ⟨w.heap.size, 0, none⟩ = some (.int .i64 k) := VB.at_ KK.out (j := 0) rfl
  rcases (show k < 1 ∨ (¬ k < 1 ∧ 4 < k) ∨ (1 ≤ k ∧ k ≤ 4) by omega) with h | ⟨h, h2⟩ | h
  · have HT := Lib.hid (ckR_no (k := k) (by omega))
    go_enter Try.func21, Try.ntmps21
    go_wp2_with ((with_reducible refine store_a2 rfl _ _ rfl K0.out ?_ (0, 0) ?_ ?_); rfl; rfl; intro w2 hM hG)
    try simp only [Exit.inBlock, Exit.then]
    refine bodyPost_ret (res_vb2 Try.results21 rfl hM Try.underlying24 (a2_info rfl)) rfl ?_
    exact ⟨by rw [HT.out]; rfl, HB.out.grown hG HB.out.size (fun k hk => by injection hk with hk; omega)⟩
  · have HT := Lib.hid (ckR_no (k := k) (by omega))
    go_enter Try.func21, Try.ntmps21
    go_wp2_with ((with_reducible refine store_a2 rfl _ _ rfl K0.out ?_ (0, 0) ?_ ?_); rfl; rfl; intro w2 hM hG)
    try simp only [Exit.inBlock, Exit.then]
    refine bodyPost_ret (res_vb2 Try.results21 rfl hM Try.underlying24 (a2_info rfl)) rfl ?_
    exact ⟨by rw [HT.out]; rfl, HB.out.grown hG HB.out.size (fun k hk => by injection hk with hk; omega)⟩
  · have hT := ckR_yes h
    have hdl : deck.length = 81 := by unfold deck; rw [List.length_map, List.length_range]
    have hdo : deck.all Cd.ok = true := by rw [← rst_nil]; exact rst_ok [] (Nat.le_refl 81)
    have hRt := fun w (hr : Rd w (some ⟨w.heap.size, 0, none⟩) (flat [])) => rest_of [] (some ⟨w.heap.size, 0, none⟩) 0 0 w rfl (by omega) hr rfl List.Pairwise.nil
    have HRest := Lib.hid (fun w p hr => rest_of [] p 0 0 w rfl (by omega) hr rfl List.Pairwise.nil)
    have HC := fun w q cq (hkc : 81 ≤ cq) hk hr => chance_drawn 51 #[] #[.pointer (some ⟨w, 0, none⟩)] hk deck 2 (kd2 k) (fit_kind hk deck k w hdo hr) q 81 cq hdl hkc (by omega) (by omega)
    rw [rst_nil] at HRest
    obtain ⟨r, hR⟩ : ∃ r, ckR k = r := ⟨_, rfl⟩
    have HC2 := Lib.hid (fun q cq (hkc : 81 ≤ cq) W hv hr => by
      have h := HC w.heap.size q cq hkc W hv hr (by rw [cho_81]; omega)
      rw [← hT, hR] at h
      exact h)
    rw [hR]
    have h1 : 1 ≤ k := h.1
    have h4 : k ≤ 4 := h.2
    have HD := Lib.hid hdl
    clear hT hR HC hdl hdo h hRt
    generalize deck = L at *
    obtain ⟨fr, ok⟩ := r
    dsimp only at HC2 ⊢
    have KK := Lib.hid (KK.out.alloc (.cells #[] 43))
    have K0 := Lib.hid (K0.out.alloc (.cells #[] 43))
    have HB := Lib.hid (HB.out.alloc HB.out.size (.cells #[] 43))
    go_enter Try.func21, Try.ntmps21
    go_wp2_with fail
    refine (HRest.out _ _ (fun hp => by simp [flat] at hp)).mono ?_
    rintro e w2 ⟨u, rfl, hu, b⟩
    have K0 := Lib.hid (K0.out.below b)
    have KK := Lib.hid (KK.out.below b)
    have HB := Lib.hid (HB.out.trans (b.mono HB.out.size))
    obtain ⟨pu, cu, rfl, hcu, hru, _⟩ := hu.form
    rw [HD.out] at hcu ⊢
    have HU := Lib.hid hru
    clear hu hru b c0
    go_wp2_with fail
    refine (HC2.out pu cu hcu _ KK.out HU.out).mono ?_
    rintro e w3 ⟨rfl, b⟩
    have K0 := Lib.hid (K0.out.below b)
    have HB := Lib.hid (HB.out.trans (b.mono HB.out.size))
    clear b
    go_wp2_with ((with_reducible refine store_a2 rfl _ _ rfl K0.out ?_ fr ?_ ?_); rfl; rfl; intro w4 hM hG)
    try simp only [Exit.inBlock, Exit.then]
    refine bodyPost_ret (res_vb2 Try.results21 rfl hM Try.underlying24 (a2_info rfl)) rfl ?_
    exact ⟨rfl, HB.out.grown hG HB.out.size (fun k hk => by injection hk with hk; omega)⟩
end Go.Proofs.Ytcedbhgjabheaaa.chance

/- ChanceKind: the model's. -/
namespace Go.Proofs.Ytcedbhgjabheaaa.chance
open Go.RowKit
open cards reg
set_option linter.unusedVariables false

set_option maxRecDepth 100000 in
set_option maxHeartbeats 400000 in
theorem spec_ck_1 (w : World) : Calls Try.prog 20 #[.int .i64 1] w fun e w' => e = .returned (.tuple #[.agg (fv (frac 8 80)), .bool true]) ∧ Below w.heap.size w w' := by
  have K0 : Hid (VB (w.alloc (.cells (fv (0, 0)) 24)) w.heap.size 24 (fv (0, 0))) := Lib.hid (VB.newAt rfl rfl)
  have HCh := fun w => l9_choose 4 1 w (by omega) (by omega) (cho_small (by omega) (by omega))
  have HCu := fun w => l9_cut 8 80 w (by omega) (by omega) (by omega)
  have HN := Lib.hid (fun w => in_yes (1 : Int) 1 4 w (by omega) (by omega))
  rw [show cho 4 1 = 4 by decide] at HCh
  generalize frac 8 80 = fr at *
  have HCh := Lib.hid HCh
  have HCu := Lib.hid HCu
  have HB0 : Hid (Below w.heap.size w (w.alloc (.cells (fv (0, 0)) 24))) := Lib.hid ((Below.refl _ _).alloc (Nat.le_refl _) _)
  have hs : ∀ w : World, (binOp .shl 3 (.int .i64 ((4 : Nat) : Int)) (.int .i64 1)).run Try.prog w = .ok (.int .i64 ((8 : Nat) : Int)) w := fun w => by kernel_rfl
  go_enter Try.func20, Try.ntmps20
  go_wp2_with fail
  refine (HN.out _).mono ?_
  rintro e w' ⟨rfl, rfl⟩
  go_wp2_with fail
  refine (HCh.out _).mono ?_
  rintro e w1 ⟨rfl, b⟩
  have K1 := Lib.hid (K0.out.below b)
  have HB1 := Lib.hid (HB0.out.trans (b.mono HB0.out.size))
  clear b
  go_wp2_with fail
  refine (HCu.out _).mono ?_
  rintro e w2 ⟨rfl, b⟩
  have K2 := Lib.hid (K1.out.below b)
  have HB2 := Lib.hid (HB1.out.trans (b.mono HB1.out.size))
  clear b
  go_wp2_with ((with_reducible refine store_a2 rfl _ _ rfl K2.out ?_ fr ?_ ?_); rfl; rfl; intro w4 hM hG)
  try simp only [Exit.inBlock, Exit.then]
  refine bodyPost_ret (res_vb2 Try.results20 rfl hM Try.underlying24 (a2_info rfl)) rfl ?_
  exact ⟨rfl, HB2.out.grown hG HB2.out.size (fun k hk => by injection hk with hk; omega)⟩

set_option maxRecDepth 100000 in
set_option maxHeartbeats 400000 in
theorem spec_ck_2 (w : World) : Calls Try.prog 20 #[.int .i64 2] w fun e w' => e = .returned (.tuple #[.agg (fv (frac 24 80)), .bool true]) ∧ Below w.heap.size w w' := by
  have K0 : Hid (VB (w.alloc (.cells (fv (0, 0)) 24)) w.heap.size 24 (fv (0, 0))) := Lib.hid (VB.newAt rfl rfl)
  have HCh := fun w => l9_choose 4 2 w (by omega) (by omega) (cho_small (by omega) (by omega))
  have HCu := fun w => l9_cut 24 80 w (by omega) (by omega) (by omega)
  have HN := Lib.hid (fun w => in_yes (2 : Int) 1 4 w (by omega) (by omega))
  rw [show cho 4 2 = 6 by decide] at HCh
  generalize frac 24 80 = fr at *
  have HCh := Lib.hid HCh
  have HCu := Lib.hid HCu
  have HB0 : Hid (Below w.heap.size w (w.alloc (.cells (fv (0, 0)) 24))) := Lib.hid ((Below.refl _ _).alloc (Nat.le_refl _) _)
  have hs : ∀ w : World, (binOp .shl 3 (.int .i64 ((6 : Nat) : Int)) (.int .i64 2)).run Try.prog w = .ok (.int .i64 ((24 : Nat) : Int)) w := fun w => by kernel_rfl
  go_enter Try.func20, Try.ntmps20
  go_wp2_with fail
  refine (HN.out _).mono ?_
  rintro e w' ⟨rfl, rfl⟩
  go_wp2_with fail
  refine (HCh.out _).mono ?_
  rintro e w1 ⟨rfl, b⟩
  have K1 := Lib.hid (K0.out.below b)
  have HB1 := Lib.hid (HB0.out.trans (b.mono HB0.out.size))
  clear b
  go_wp2_with fail
  refine (HCu.out _).mono ?_
  rintro e w2 ⟨rfl, b⟩
  have K2 := Lib.hid (K1.out.below b)
  have HB2 := Lib.hid (HB1.out.trans (b.mono HB1.out.size))
  clear b
  go_wp2_with ((with_reducible refine store_a2 rfl _ _ rfl K2.out ?_ fr ?_ ?_); rfl; rfl; intro w4 hM hG)
  try simp only [Exit.inBlock, Exit.then]
  refine bodyPost_ret (res_vb2 Try.results20 rfl hM Try.underlying24 (a2_info rfl)) rfl ?_
  exact ⟨rfl, HB2.out.grown hG HB2.out.size (fun k hk => by injection hk with hk; omega)⟩

set_option maxRecDepth 100000 in
set_option maxHeartbeats 400000 in
theorem spec_ck_3 (w : World) : Calls Try.prog 20 #[.int .i64 3] w fun e w' => e = .returned (.tuple #[.agg (fv (frac 32 80)), .bool true]) ∧ Below w.heap.size w w' := by
  have K0 : Hid (VB (w.alloc (.cells (fv (0, 0)) 24)) w.heap.size 24 (fv (0, 0))) := Lib.hid (VB.newAt rfl rfl)
  have HCh := fun w => l9_choose 4 3 w (by omega) (by omega) (cho_small (by omega) (by omega))
  have HCu := fun w => l9_cut 32 80 w (by omega) (by omega) (by omega)
  have HN := Lib.hid (fun w => in_yes (3 : Int) 1 4 w (by omega) (by omega))
  rw [show cho 4 3 = 4 by decide] at HCh
  generalize frac 32 80 = fr at *
  have HCh := Lib.hid HCh
  have HCu := Lib.hid HCu
  have HB0 : Hid (Below w.heap.size w (w.alloc (.cells (fv (0, 0)) 24))) := Lib.hid ((Below.refl _ _).alloc (Nat.le_refl _) _)
  have hs : ∀ w : World, (binOp .shl 3 (.int .i64 ((4 : Nat) : Int)) (.int .i64 3)).run Try.prog w = .ok (.int .i64 ((32 : Nat) : Int)) w := fun w => by kernel_rfl
  go_enter Try.func20, Try.ntmps20
  go_wp2_with fail
  refine (HN.out _).mono ?_
  rintro e w' ⟨rfl, rfl⟩
  go_wp2_with fail
  refine (HCh.out _).mono ?_
  rintro e w1 ⟨rfl, b⟩
  have K1 := Lib.hid (K0.out.below b)
  have HB1 := Lib.hid (HB0.out.trans (b.mono HB0.out.size))
  clear b
  go_wp2_with fail
  refine (HCu.out _).mono ?_
  rintro e w2 ⟨rfl, b⟩
  have K2 := Lib.hid (K1.out.below b)
  have HB2 := Lib.hid (HB1.out.trans (b.mono HB1.out.size))
  clear b
  go_wp2_with ((with_reducible refine store_a2 rfl _ _ rfl K2.out ?_ fr ?_ ?_); rfl; rfl; intro w4 hM hG)
  try simp only [Exit.inBlock, Exit.then]
  refine bodyPost_ret (res_vb2 Try.results20 rfl hM Try.underlying24 (a2_info rfl)) rfl ?_
  exact ⟨rfl, HB2.out.grown hG HB2.out.size (fun k hk => by injection hk with hk; omega)⟩

set_option maxRecDepth 100000 in
set_option maxHeartbeats 400000 in
theorem spec_ck_4 (w : World) : Calls Try.prog 20 #[.int .i64 4] w fun e w' => e = .returned (.tuple #[.agg (fv (frac 16 80)), .bool true]) ∧ Below w.heap.size w w' := by
  have K0 : Hid (VB (w.alloc (.cells (fv (0, 0)) 24)) w.heap.size 24 (fv (0, 0))) := Lib.hid (VB.newAt rfl rfl)
  have HCh := fun w => l9_choose 4 4 w (by omega) (by omega) (cho_small (by omega) (by omega))
  have HCu := fun w => l9_cut 16 80 w (by omega) (by omega) (by omega)
  have HN := Lib.hid (fun w => in_yes (4 : Int) 1 4 w (by omega) (by omega))
  rw [show cho 4 4 = 1 by decide] at HCh
  generalize frac 16 80 = fr at *
  have HCh := Lib.hid HCh
  have HCu := Lib.hid HCu
  have HB0 : Hid (Below w.heap.size w (w.alloc (.cells (fv (0, 0)) 24))) := Lib.hid ((Below.refl _ _).alloc (Nat.le_refl _) _)
  have hs : ∀ w : World, (binOp .shl 3 (.int .i64 ((1 : Nat) : Int)) (.int .i64 4)).run Try.prog w = .ok (.int .i64 ((16 : Nat) : Int)) w := fun w => by kernel_rfl
  go_enter Try.func20, Try.ntmps20
  go_wp2_with fail
  refine (HN.out _).mono ?_
  rintro e w' ⟨rfl, rfl⟩
  go_wp2_with fail
  refine (HCh.out _).mono ?_
  rintro e w1 ⟨rfl, b⟩
  have K1 := Lib.hid (K0.out.below b)
  have HB1 := Lib.hid (HB0.out.trans (b.mono HB0.out.size))
  clear b
  go_wp2_with fail
  refine (HCu.out _).mono ?_
  rintro e w2 ⟨rfl, b⟩
  have K2 := Lib.hid (K1.out.below b)
  have HB2 := Lib.hid (HB1.out.trans (b.mono HB1.out.size))
  clear b
  go_wp2_with ((with_reducible refine store_a2 rfl _ _ rfl K2.out ?_ fr ?_ ?_); rfl; rfl; intro w4 hM hG)
  try simp only [Exit.inBlock, Exit.then]
  refine bodyPost_ret (res_vb2 Try.results20 rfl hM Try.underlying24 (a2_info rfl)) rfl ?_
  exact ⟨rfl, HB2.out.grown hG HB2.out.size (fun k hk => by injection hk with hk; omega)⟩

set_option maxRecDepth 100000 in
set_option maxHeartbeats 4000000 in
theorem spec_ck (k : Int) (w : World) : Calls Try.prog 20 #[.int .i64 k] w fun e w' => e = .returned (.tuple #[.agg (fv (ckR k).1), .bool (ckR k).2]) ∧ Below w.heap.size w w' := by
  rcases (show k = 1 ∨ k = 2 ∨ k = 3 ∨ k = 4 ∨ (k < 1 ∨ 4 < k) by omega) with rfl | rfl | rfl | rfl | h
  · exact spec_ck_1 w
  · exact spec_ck_2 w
  · exact spec_ck_3 w
  · exact spec_ck_4 w
  · have HT := Lib.hid (ckR_no h)
    have HN := Lib.hid (fun w => in_no k 1 4 w h)
    have K0 : Hid (VB (w.alloc (.cells (fv (0, 0)) 24)) w.heap.size 24 (fv (0, 0))) := Lib.hid (VB.newAt rfl rfl)
    have HB0 : Hid (Below w.heap.size w (w.alloc (.cells (fv (0, 0)) 24))) := Lib.hid ((Below.refl _ _).alloc (Nat.le_refl _) _)
    clear h
    go_enter Try.func20, Try.ntmps20
    go_wp2_with fail
    refine (HN.out _).mono ?_
    rintro e w' ⟨rfl, rfl⟩
    go_wp2_with ((with_reducible refine store_a2 rfl _ _ rfl K0.out ?_ (0, 0) ?_ ?_); rfl; rfl; intro w2 hM hG)
    try simp only [Exit.inBlock, Exit.then]
    refine bodyPost_ret (res_vb2 Try.results20 rfl hM Try.underlying24 (a2_info rfl)) rfl ?_
    exact ⟨by rw [HT.out]; rfl, HB0.out.grown hG HB0.out.size (fun k hk => by injection hk with hk; omega)⟩
end Go.Proofs.Ytcedbhgjabheaaa.chance

