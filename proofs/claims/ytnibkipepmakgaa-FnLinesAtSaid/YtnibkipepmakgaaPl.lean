/- The place of a card in a hand: the program's binary search. -/
import Derived.Test.YtnibkipepmakgaaCp
import Derived.IntWalk
namespace Go.Proofs.Ytnibkipepmakgaa.cards
open Go.RowKit
set_option linter.unusedVariables false

def sorted (l : List Cd) : Prop := l.Pairwise fun x y => num x < num y
/-- How many cards of a hand are less than a card. -/
def less (l : List Cd) (c : Cd) : Nat := (l.takeWhile fun x => decide (num x < num c)).length
theorem less_le (l : List Cd) (c : Cd) : less l c ≤ l.length := by unfold less; exact (List.takeWhile_sublist _).length_le
theorem less_is : ∀ {l : List Cd} {c : Cd} {i : Nat}, i ≤ l.length → (∀ k x, k < i → l[k]? = some x → num x < num c) → (∀ x, l[i]? = some x → ¬ num x < num c) → i = less l c
  | [], c, i, h, _, _ => by simp at h; subst h; rfl
  | y :: r, c, 0, h, _, h2 => by
    have := h2 y rfl
    simp [less, this]
  | y :: r, c, i + 1, h, h1, h2 => by
    have hy := h1 0 y (by omega) rfl
    have ih := less_is (l := r) (c := c) (i := i) (by simpa using h) (fun k x hk hx => h1 (k + 1) x (by omega) (by simpa using hx)) (fun x hx => h2 x (by simpa using hx))
    unfold less at ih ⊢
    rw [List.takeWhile_cons, if_pos (by simpa using hy), List.length_cons, ← ih]
theorem sorted_lt {l : List Cd} (h : sorted l) {i j : Nat} {x y : Cd} (hij : i < j) (hx : l[i]? = some x) (hy : l[j]? = some y) : num x < num y := by
  obtain ⟨hi, rfl⟩ := List.getElem?_eq_some_iff.1 hx
  obtain ⟨hj, rfl⟩ := List.getElem?_eq_some_iff.1 hy
  exact List.pairwise_iff_getElem.1 h i j hi hj hij
/-- Is the card there? -/
def there (l : List Cd) (c : Cd) : Bool := decide (∃ x, l[less l c]? = some x ∧ num x = num c)

set_option maxRecDepth 100000 in
set_option maxHeartbeats 4000000 in
theorem bin_search (l : List Cd) (c : Cd) (p : Option Addr) (n cp : Nat) (w : World) (hn : l.length = n) (hl : n ≤ 1000) (hr : Rd w p (flat l)) (hok : l.all Cd.ok = true) (hc : c.ok = true) (hs : sorted l) :
    Calls Try.prog 48 #[.slice p n cp, c.val, .func (.func 47) #[] #[]] w fun e w' => e = .returned (.tuple #[.int .i64 (less l c), .bool (there l c)]) ∧ Below w.heap.size w w' := by
  have HN := Lib.hid hn
  have HR := Lib.hid hr
  have HS := Lib.hid hs
  have HK := Lib.hid hok
  have HC := Lib.hid hc
  clear hn hr hs hok hc
  go_enter Try.func48, Try.ntmps48
  go_wp2_with fail
  go_loopw [9, 10, 11] (fun i j _ wr => ∃ a b : Nat, a ≤ b ∧ b ≤ n ∧ i = .int .i64 a ∧ j = .int .i64 b ∧ Hid (∀ k x, k < a → l[k]? = some x → num x < num c) ∧ Hid (∀ k x, b ≤ k → l[k]? = some x → num c ≤ num x) ∧ Hid (Below w.heap.size w wr) ∧ Hid (Box wr w.heap.size c)) (fun i j _ _ => ((intOf j) - (intOf i)).toNat)
  case atStart => exact ⟨0, n, by omega, by omega, rfl, rfl, fun k x h _ => by omega, fun k x h hx => by (have := (List.getElem?_eq_some_iff.1 hx).1; have := HN.out; omega), Lib.hid (by repeat (first | with_reducible exact Below.refl _ _ | with_reducible exact HB.out | with_reducible apply Below.drew | with_reducible apply bdN | with_reducible refine Below.alloc ?_ (by first | exact Nat.le_refl _ | with_reducible exact HB.out.size | omega | (simp; done) | (simp; omega) | (have := HB.out.size; simp at *; omega)) _ | with_reducible refine Below.setCell ?_ (by first | exact Nat.le_refl _ | with_reducible exact HB.out.size | omega | (simp; done) | (simp; omega) | (have := HB.out.size; simp at *; omega)) _)), Lib.hid (by repeat (first | with_reducible exact HB.out | with_reducible apply Box.drewN | with_reducible apply Box.drew | (with_reducible refine Box.newAt ?_ ?_ <;> first | (simp; done) | rfl) | with_reducible apply Box.alloc))⟩
  case round =>
    obtain ⟨a, b, hab, hb, rfl, rfl, HA, HB1, HB, K0⟩ := hrel
    obtain ⟨k0a, k0b, k0c, k0d⟩ := K0.out.cell
    have k0z := K0.out.lt
    by_cases hlt : a < b
    · go_wp2_with fail
      obtain ⟨m, hm, hm1, hm2⟩ : ∃ m : Nat, ((a : Int) + (b : Int)) / 2 = m ∧ a ≤ m ∧ m < b := ⟨(a + b) / 2, by omega, by omega, by omega⟩
      rw [hm]
      clear hm
      obtain ⟨g, o, x, rfl, hg, hx, c0, c1, c2, c3⟩ := (HR.out.below HB.out).card (k := m) (by rw [HN.out]; omega)
      have HX := Lib.hid hx
      obtain ⟨h1, h2⟩ := cmp_num (x := x) (y := c) (List.all_eq_true.1 HK.out x (List.mem_of_getElem? hx)) HC.out
      have H1 := Lib.hid h1
      clear hx h1 h2
      obtain ⟨q0, q1⟩ := cmpC_bd x c
      have b0 : (0 : Int) ≤ (m : Int) := by omega
      have b1 : (m : Int) < (n : Int) := by omega
      by_cases hq : cmpC x c < 0
      · have HL := Lib.hid (show ∀ k y, k < m + 1 → l[k]? = some y → num y < num c from fun k y hk hy => by
          have hxc := H1.out.1 hq
          rcases Nat.lt_or_ge k m with h | h
          · have := sorted_lt HS.out h hy HX.out; omega
          · obtain rfl : k = m := by omega
            have := HX.out; rw [hy] at this; injection this with this; subst this; exact hxc)
        have qk0a := fun d os => cell_regrown k0a d os
        have qk0b := fun d os => cell_regrown k0b d os
        have qk0c := fun d os => cell_regrown k0c d os
        have qk0d := fun d os => cell_regrown k0d d os
        have qc0 := fun d os => cell_regrown c0 d os
        have qc1 := fun d os => cell_regrown c1 d os
        have qc2 := fun d os => cell_regrown c2 d os
        have qc3 := fun d os => cell_regrown c3 d os
        refine wp_region_quiet_below (by kernel_rfl) (by kernel_rfl) ?_
        repeat (first | go_big_quiet_step ((go_at_call 47; exact Calls.regrown_of (compare_cards _ _ _))) | quiet_step ((go_at_call 47; exact Calls.regrown_of (compare_cards _ _ _))))
        refine wpQuiet_nil ?_
        intro w2 hw2
        have b : Below wr.heap.size wr w2 := by obtain ⟨r, hr⟩ := hw2; rw [hr]; exact below_regrown _ _ _
        clear hw2 qc0 qc1 qc2 qc3 qk0a qk0b qk0c qk0d
        have Sw2 := Lib.hid b.size
        have HB := Lib.hid (chain0 (w := w) (by repeat (first | with_reducible exact Below.refl _ _ | with_reducible exact HB.out | with_reducible apply Below.drew | with_reducible apply bdN | with_reducible refine Below.alloc ?_ (by first | exact Nat.le_refl _ | with_reducible exact HB.out.size | omega | (simp; done) | (simp; omega) | (have := HB.out.size; simp at *; omega)) _ | with_reducible refine Below.setCell ?_ (by first | exact Nat.le_refl _ | with_reducible exact HB.out.size | omega | (simp; done) | (simp; omega) | (have := HB.out.size; simp at *; omega)) _)) b)
        have K0 : Hid (Box _ (w.heap.size) (c)) := Lib.hid (Box.below (by repeat (first | with_reducible exact K0.out | with_reducible apply Box.drewN | with_reducible apply Box.drew | (with_reducible refine Box.newAt ?_ ?_ <;> first | (simp; done) | rfl) | with_reducible apply Box.alloc)) b)
        try clear k0a k0b k0c k0d k0z
        have k0z := K0.out.lt
        obtain ⟨k0a, k0b, k0c, k0d⟩ := K0.out.cell
        clear b
        clear c0 c1 c2 c3
        go_wp2_with fail
        go_roundw
        case rel => exact ⟨m + 1, b, by omega, by omega, by go_num, rfl, HL, HB1, HB, K0⟩
        case measure => simp [intOf]; omega
      · have HL := Lib.hid (show ∀ k y, m ≤ k → l[k]? = some y → num c ≤ num y from fun k y hk hy => by
          have hxc : ¬ num x < num c := fun h => hq (H1.out.2 h)
          rcases Nat.lt_or_ge m k with h | h
          · have := sorted_lt HS.out h HX.out hy; omega
          · obtain rfl : k = m := by omega
            have := HX.out; rw [hy] at this; injection this with this; subst this; omega)
        have qk0a := fun d os => cell_regrown k0a d os
        have qk0b := fun d os => cell_regrown k0b d os
        have qk0c := fun d os => cell_regrown k0c d os
        have qk0d := fun d os => cell_regrown k0d d os
        have qc0 := fun d os => cell_regrown c0 d os
        have qc1 := fun d os => cell_regrown c1 d os
        have qc2 := fun d os => cell_regrown c2 d os
        have qc3 := fun d os => cell_regrown c3 d os
        refine wp_region_quiet_below (by kernel_rfl) (by kernel_rfl) ?_
        repeat (first | go_big_quiet_step ((go_at_call 47; exact Calls.regrown_of (compare_cards _ _ _))) | quiet_step ((go_at_call 47; exact Calls.regrown_of (compare_cards _ _ _))))
        refine wpQuiet_nil ?_
        intro w2 hw2
        have b : Below wr.heap.size wr w2 := by obtain ⟨r, hr⟩ := hw2; rw [hr]; exact below_regrown _ _ _
        clear hw2 qc0 qc1 qc2 qc3 qk0a qk0b qk0c qk0d
        have Sw2 := Lib.hid b.size
        have HB := Lib.hid (chain0 (w := w) (by repeat (first | with_reducible exact Below.refl _ _ | with_reducible exact HB.out | with_reducible apply Below.drew | with_reducible apply bdN | with_reducible refine Below.alloc ?_ (by first | exact Nat.le_refl _ | with_reducible exact HB.out.size | omega | (simp; done) | (simp; omega) | (have := HB.out.size; simp at *; omega)) _ | with_reducible refine Below.setCell ?_ (by first | exact Nat.le_refl _ | with_reducible exact HB.out.size | omega | (simp; done) | (simp; omega) | (have := HB.out.size; simp at *; omega)) _)) b)
        have K0 : Hid (Box _ (w.heap.size) (c)) := Lib.hid (Box.below (by repeat (first | with_reducible exact K0.out | with_reducible apply Box.drewN | with_reducible apply Box.drew | (with_reducible refine Box.newAt ?_ ?_ <;> first | (simp; done) | rfl) | with_reducible apply Box.alloc)) b)
        try clear k0a k0b k0c k0d k0z
        have k0z := K0.out.lt
        obtain ⟨k0a, k0b, k0c, k0d⟩ := K0.out.cell
        clear b
        clear c0 c1 c2 c3
        go_wp2_with fail
        go_roundw
        case rel => exact ⟨a, m, by omega, by omega, rfl, rfl, HA, HL, HB, K0⟩
        case measure => simp [intOf]; omega
    · obtain rfl : a = b := by omega
      have HL := Lib.hid (less_is (l := l) (c := c) (i := a) (by rw [HN.out]; exact hb) HA.out (fun x hx => Int.not_lt.2 (HB1.out a x (Nat.le_refl _) hx)))
      by_cases han : a < n
      · obtain ⟨g, o, x, rfl, hg, hx, c0, c1, c2, c3⟩ := (HR.out.below HB.out).card (k := a) (by rw [HN.out]; omega)
        have HX := Lib.hid hx
        obtain ⟨h1, h2⟩ := cmp_num (x := x) (y := c) (List.all_eq_true.1 HK.out x (List.mem_of_getElem? hx)) HC.out
        have H2 := Lib.hid h2
        clear hx h1 h2
        have b0 : (0 : Int) ≤ (a : Int) := by omega
        have b1 : (a : Int) < (n : Int) := by omega
        obtain ⟨t, ht, HT⟩ : ∃ t : Bool, (cmpC x c == 0) = t ∧ Hid (t = there l c) := ⟨_, rfl, by
          show (cmpC x c == 0) = there l c
          unfold there
          rw [← HL.out, HX.out, Bool.eq_iff_iff]
          simp [H2.out]⟩
        go_wp2_with fail
        have qk0a := fun d os => cell_regrown k0a d os
        have qk0b := fun d os => cell_regrown k0b d os
        have qk0c := fun d os => cell_regrown k0c d os
        have qk0d := fun d os => cell_regrown k0d d os
        have qc0 := fun d os => cell_regrown c0 d os
        have qc1 := fun d os => cell_regrown c1 d os
        have qc2 := fun d os => cell_regrown c2 d os
        have qc3 := fun d os => cell_regrown c3 d os
        refine wp_region_quiet_below (by kernel_rfl) (by kernel_rfl) ?_
        repeat (first | go_big_quiet_step ((go_at_call 47; exact Calls.regrown_of (compare_cards _ _ _))) | quiet_step ((go_at_call 47; exact Calls.regrown_of (compare_cards _ _ _))))
        refine wpQuiet_nil ?_
        intro w2 hw2
        have b : Below wr.heap.size wr w2 := by obtain ⟨r, hr⟩ := hw2; rw [hr]; exact below_regrown _ _ _
        clear hw2 qc0 qc1 qc2 qc3 qk0a qk0b qk0c qk0d
        have Sw2 := Lib.hid b.size
        have HB := Lib.hid (chain0 (w := w) (by repeat (first | with_reducible exact Below.refl _ _ | with_reducible exact HB.out | with_reducible apply Below.drew | with_reducible apply bdN | with_reducible refine Below.alloc ?_ (by first | exact Nat.le_refl _ | with_reducible exact HB.out.size | omega | (simp; done) | (simp; omega) | (have := HB.out.size; simp at *; omega)) _ | with_reducible refine Below.setCell ?_ (by first | exact Nat.le_refl _ | with_reducible exact HB.out.size | omega | (simp; done) | (simp; omega) | (have := HB.out.size; simp at *; omega)) _)) b)
        have K0 : Hid (Box _ (w.heap.size) (c)) := Lib.hid (Box.below (by repeat (first | with_reducible exact K0.out | with_reducible apply Box.drewN | with_reducible apply Box.drew | (with_reducible refine Box.newAt ?_ ?_ <;> first | (simp; done) | rfl) | with_reducible apply Box.alloc)) b)
        try clear k0a k0b k0c k0d k0z
        have k0z := K0.out.lt
        obtain ⟨k0a, k0b, k0c, k0d⟩ := K0.out.cell
        clear b
        go_wp2_with fail
        go_ret2
        exact ⟨ret_ib (by rw [← HL.out, ← HT.out]), HB.out⟩
      · have HT := Lib.hid (show false = there l c by
          unfold there
          rw [← HL.out, List.getElem?_eq_none (by rw [HN.out]; omega)]
          simp)
        have hf : decide (a < n) = false := by simp; omega
        go_wp2_with fail
        have qk0a := fun d os => cell_regrown k0a d os
        have qk0b := fun d os => cell_regrown k0b d os
        have qk0c := fun d os => cell_regrown k0c d os
        have qk0d := fun d os => cell_regrown k0d d os
        refine wp_region_quiet_below (by kernel_rfl) (by kernel_rfl) ?_
        repeat (first | go_big_quiet_step ((fail)) | quiet_step ((fail)))
        refine wpQuiet_nil ?_
        intro w2 hw2
        have b : Below wr.heap.size wr w2 := by obtain ⟨r, hr⟩ := hw2; rw [hr]; exact below_regrown _ _ _
        clear hw2 qk0a qk0b qk0c qk0d
        have Sw2 := Lib.hid b.size
        have HB := Lib.hid (chain0 (w := w) (by repeat (first | with_reducible exact Below.refl _ _ | with_reducible exact HB.out | with_reducible apply Below.drew | with_reducible apply bdN | with_reducible refine Below.alloc ?_ (by first | exact Nat.le_refl _ | with_reducible exact HB.out.size | omega | (simp; done) | (simp; omega) | (have := HB.out.size; simp at *; omega)) _ | with_reducible refine Below.setCell ?_ (by first | exact Nat.le_refl _ | with_reducible exact HB.out.size | omega | (simp; done) | (simp; omega) | (have := HB.out.size; simp at *; omega)) _)) b)
        have K0 : Hid (Box _ (w.heap.size) (c)) := Lib.hid (Box.below (by repeat (first | with_reducible exact K0.out | with_reducible apply Box.drewN | with_reducible apply Box.drew | (with_reducible refine Box.newAt ?_ ?_ <;> first | (simp; done) | rfl) | with_reducible apply Box.alloc)) b)
        try clear k0a k0b k0c k0d k0z
        have k0z := K0.out.lt
        obtain ⟨k0a, k0b, k0c, k0d⟩ := K0.out.cell
        clear b
        go_wp2_with fail
        go_ret2
        exact ⟨ret_ib (by rw [← HL.out, ← HT.out]), HB.out⟩

set_option maxRecDepth 100000 in
set_option maxHeartbeats 1000000 in
theorem place_in (l : List Cd) (c : Cd) (p : Option Addr) (n cp : Nat) (w : World) (hn : l.length = n) (hl : n ≤ 1000) (hr : Rd w p (flat l)) (hok : l.all Cd.ok = true) (hc : c.ok = true) (hs : sorted l) :
    Calls Try.prog 33 #[.slice p n cp, c.val] w fun e w' => e = .returned (.tuple #[.int .i64 (less l c), .bool (there l c)]) ∧ Below w.heap.size w w' := by
  have HN := Lib.hid hn
  have HR := Lib.hid hr
  have HS := Lib.hid hs
  have HK := Lib.hid hok
  have HC := Lib.hid hc
  clear hn hr hs hok hc
  go_enter Try.func33, Try.ntmps33
  go_wp2_with fail
  refine ((bin_search l c p n cp _ HN.out hl (HR.out.alloc _) HK.out HC.out HS.out)).mono ?_
  rintro e w1 ⟨rfl, b⟩
  have Sw1 := Lib.hid b.size
  have HB := Lib.hid (chain0 (w := w) (by repeat (first | with_reducible exact Below.refl _ _ | with_reducible exact HB.out | with_reducible apply Below.drew | with_reducible apply bdN | with_reducible refine Below.alloc ?_ (by first | exact Nat.le_refl _ | with_reducible exact HB.out.size | omega | (simp; done) | (simp; omega) | (have := HB.out.size; simp at *; omega)) _ | with_reducible refine Below.setCell ?_ (by first | exact Nat.le_refl _ | with_reducible exact HB.out.size | omega | (simp; done) | (simp; omega) | (have := HB.out.size; simp at *; omega)) _)) b)
  clear b
  go_wp2_with fail
  go_ret2
  exact ⟨rfl, by repeat (first | with_reducible exact Below.refl _ _ | with_reducible exact HB.out | with_reducible apply Below.drew | with_reducible apply bdN | with_reducible refine Below.alloc ?_ (by first | exact Nat.le_refl _ | with_reducible exact HB.out.size | omega | (simp; done) | (simp; omega) | (have := HB.out.size; simp at *; omega)) _ | with_reducible refine Below.setCell ?_ (by first | exact Nat.le_refl _ | with_reducible exact HB.out.size | omega | (simp; done) | (simp; omega) | (have := HB.out.size; simp at *; omega)) _)⟩
end Go.Proofs.Ytnibkipepmakgaa.cards
