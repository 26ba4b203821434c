/- The sum of the cards of a hand: the program and the model alike. -/
import Derived.Test.YtjmlefcmhjodeaaIh
namespace Go.Proofs.Ytjmlefcmhjodeaa.cards
open Go.RowKit
set_option linter.unusedVariables false

def addC (s x : Cd) : Cd := ⟨(s.a + x.a) % 3, (s.b + x.b) % 3, (s.c + x.c) % 3, (s.d + x.d) % 3⟩
def sumOf (l : List Cd) : Cd := l.foldl addC zero
theorem addC_ok (s x : Cd) : (addC s x).ok = true := Cd.mk_ok (by unfold addC; simp only; omega)
theorem sum_snoc {l : List Cd} {k : Nat} {x : Cd} (h : l[k]? = some x) : sumOf (l.take (k + 1)) = addC (sumOf (l.take k)) x := by rw [take_snoc h]; simp [sumOf, List.foldl_append]
theorem foldl_ok : ∀ (l : List Cd) (s : Cd), s.ok = true → (l.foldl addC s).ok = true
  | [], s, h => h
  | x :: r, s, h => foldl_ok r _ (addC_ok s x)
theorem sum_ok (l : List Cd) : (sumOf l).ok = true := foldl_ok l zero rfl
theorem sum_all {l : List Cd} {n : Nat} (h : l.length = n) : sumOf (l.take n) = sumOf l := by rw [← h, List.take_length]

set_option maxRecDepth 100000 in
set_option maxHeartbeats 2000000 in
theorem l2_sum (l : List Cd) (p : Option Addr) (n c : Nat) (w : World) (hn : l.length = n) (hl : n ≤ 1000000000) (hr : Rd w p (flat l)) (hok : l.all Cd.ok = true) :
    Calls Try.prog 57 #[.slice p n c] w fun e w' => e = .returned (sumOf l).val ∧ Below w.heap.size w w' := by
  have HN := Lib.hid hn
  have HR := Lib.hid hr
  have HK := Lib.hid hok
  clear hn hr hok
  go_enter Try.func57, Try.ntmps57
  go_wp2_with fail
  go_loopw [4, 5] (fun i _ wr => ∃ k : Nat, k ≤ n ∧ i = .int .i64 k ∧ Hid (Below w.heap.size w wr) ∧ Hid (Box wr w.heap.size zero) ∧ Hid (Box wr (w.heap.size + 1) (sumOf (l.take k)))) (fun i _ _ => n - (intOf i).toNat)
  case atStart => exact ⟨0, Nat.zero_le _, rfl, Lib.hid (by repeat (first | with_reducible exact Below.refl _ _ | with_reducible exact HB.out | with_reducible apply Below.drew | with_reducible apply bdN | with_reducible refine Below.alloc ?_ (by first | exact Nat.le_refl _ | with_reducible exact HB.out.size | omega | (simp; done) | (simp; omega) | (have := HB.out.size; simp at *; omega)) _ | with_reducible refine Below.setCell ?_ (by first | exact Nat.le_refl _ | with_reducible exact HB.out.size | omega | (simp; done) | (simp; omega) | (have := HB.out.size; simp at *; omega)) _)), Lib.hid (by repeat (first | with_reducible exact HB.out | with_reducible apply Box.drewN | with_reducible apply Box.drew | (with_reducible refine Box.newAt ?_ ?_ <;> first | (simp; done) | rfl) | with_reducible apply Box.alloc)), by rw [List.take_zero]; exact Lib.hid (show Box _ _ zero from (by repeat (first | with_reducible exact HB.out | with_reducible apply Box.drewN | with_reducible apply Box.drew | (with_reducible refine Box.newAt ?_ ?_ <;> first | (simp; done) | rfl) | with_reducible apply Box.alloc)))⟩
  case round =>
    obtain ⟨k, hk, rfl, HB, K0, K1⟩ := hrel
    obtain ⟨k1a, k1b, k1c, k1d⟩ := K1.out.cell
    have k1f := K1.out.frozen
    by_cases hlt : k < n
    · obtain ⟨b, o, x, rfl, hb, hx, c0, c1, c2, c3⟩ := HR.out.card_in HB.out (k := k) (by rw [HN.out]; exact hlt)
      obtain ⟨⟨x1, x2⟩, ⟨x3, x4⟩, ⟨x5, x6⟩, x7, x8⟩ := Cd.bd (ok_at HK.out hx)
      obtain ⟨⟨y1, y2⟩, ⟨y3, y4⟩, ⟨y5, y6⟩, y7, y8⟩ := Cd.bd (sum_ok (l.take k))
      have HT := Lib.hid (sum_snoc hx)
      clear hx
      generalize sumOf (l.take k) = s at *
      have hn1 : b ≠ w.heap.size + 1 := by omega
      have hn2 : w.heap.size + 1 ≠ b := by omega
      have b0 : (0 : Int) ≤ (k : Int) := by omega
      have b1 : (k : Int) < (n : Int) := by omega
      go_wp2_with fail
      refine wp_loop_rounds 5 ?_
      iterate 4 (rw [rounds_succ]; go_wp2_with fail; go_region; go_wp2_with fail)
      rw [rounds_succ]
      go_wp2_with fail
      refine ⟨⟨k + 1, by omega, by go_num, ?_, ?_, ?_⟩, by simp [intOf]; omega⟩
      · exact Lib.hid (by repeat (first | with_reducible exact Below.refl _ _ | with_reducible exact HB.out | with_reducible apply Below.drew | with_reducible apply bdN | with_reducible refine Below.alloc ?_ (by first | exact Nat.le_refl _ | with_reducible exact HB.out.size | omega | (simp; done) | (simp; omega) | (have := HB.out.size; simp at *; omega)) _ | with_reducible refine Below.setCell ?_ (by first | exact Nat.le_refl _ | with_reducible exact HB.out.size | omega | (simp; done) | (simp; omega) | (have := HB.out.size; simp at *; omega)) _))
      · have h0 : w.heap.size ≠ w.heap.size + 1 := by omega
        exact Lib.hid ((((K0.out.far (p := ⟨w.heap.size + 1, _, none⟩) h0 _).far (p := ⟨w.heap.size + 1, _, none⟩) h0 _).far (p := ⟨w.heap.size + 1, _, none⟩) h0 _).far (p := ⟨w.heap.size + 1, _, none⟩) h0 _)
      · rw [HT.out]; exact Lib.hid (K1.out.set_ (addC s x))
    · obtain rfl : k = n := by omega
      rw [sum_all HN.out] at K1
      clear k1a k1b k1c k1d k1f
      obtain ⟨k1a, k1b, k1c, k1d⟩ := K1.out.cell
      obtain ⟨k0a, k0b, k0c, k0d⟩ := K0.out.cell
      have k0f := K0.out.frozen
      go_wp2_with fail
      exact bodyPost_ret (v := (sumOf l).val) (by simp [results, Try.results57, go_sem, *]) rfl ⟨rfl, by repeat (first | with_reducible exact Below.refl _ _ | with_reducible exact HB.out | with_reducible apply Below.drew | with_reducible apply bdN | with_reducible refine Below.alloc ?_ (by first | exact Nat.le_refl _ | with_reducible exact HB.out.size | omega | (simp; done) | (simp; omega) | (have := HB.out.size; simp at *; omega)) _ | with_reducible refine Below.setCell ?_ (by first | exact Nat.le_refl _ | with_reducible exact HB.out.size | omega | (simp; done) | (simp; omega) | (have := HB.out.size; simp at *; omega)) _)⟩

noncomputable def sumR (l : List Cd) : Cd × Bool := if handB l = true then (sumOf l, true) else (zero, false)

set_option maxRecDepth 100000 in
set_option maxHeartbeats 2000000 in
theorem impl_sum (l : List Cd) (p : Option Addr) (n c : Nat) (w : World) (hn : l.length = n) (hl : n ≤ 1000000000) (hr : Rd w p (flat l)) :
    Calls Try.prog 59 #[.slice p n c] w fun e w' => e = .returned (.tuple #[(sumR l).1.val, .bool (sumR l).2]) ∧ Below w.heap.size w w' := by
  have HN := Lib.hid hn
  have HR := Lib.hid hr
  clear hn hr
  go_enter Try.func59, Try.ntmps59
  go_wp2_with fail
  refine ((is_hand l p n c _ HN.out hl (HR.out.alloc _))).mono ?_
  rintro e w1 ⟨rfl, b⟩
  have Sw1 := Lib.hid b.size
  have HB := Lib.hid (chain0 (w := w) (by repeat (first | with_reducible exact Below.refl _ _ | with_reducible exact HB.out | with_reducible apply Below.drew | with_reducible apply bdN | with_reducible refine Below.alloc ?_ (by first | exact Nat.le_refl _ | with_reducible exact HB.out.size | omega | (simp; done) | (simp; omega) | (have := HB.out.size; simp at *; omega)) _ | with_reducible refine Below.setCell ?_ (by first | exact Nat.le_refl _ | with_reducible exact HB.out.size | omega | (simp; done) | (simp; omega) | (have := HB.out.size; simp at *; omega)) _)) b)
  have K0 : Hid (Box _ (w.heap.size) (zero)) := Lib.hid (Box.below (by repeat (first | with_reducible exact K0.out | with_reducible apply Box.drewN | with_reducible apply Box.drew | (with_reducible refine Box.newAt ?_ ?_ <;> first | (simp; done) | rfl) | with_reducible apply Box.alloc)) b)
  try clear k0a k0b k0c k0d k0z
  have k0z := K0.out.lt
  obtain ⟨k0a, k0b, k0c, k0d⟩ := K0.out.cell
  try clear k0f
  have k0f := K0.out.frozen
  clear b
  cases hh : handB l
  · have HT := Lib.hid (show (zero, false) = sumR l by unfold sumR; rw [if_neg (by simp [hh])])
    go_wp2_with fail
    rw [← HT.out]
    exact bodyPost_ret (v := .tuple #[zero.val, .bool false]) (by simp [results, Try.results59, go_sem, *]) rfl ⟨rfl, by repeat (first | with_reducible exact Below.refl _ _ | with_reducible exact HB.out | with_reducible apply Below.drew | with_reducible apply bdN | with_reducible refine Below.alloc ?_ (by first | exact Nat.le_refl _ | with_reducible exact HB.out.size | omega | (simp; done) | (simp; omega) | (have := HB.out.size; simp at *; omega)) _ | with_reducible refine Below.setCell ?_ (by first | exact Nat.le_refl _ | with_reducible exact HB.out.size | omega | (simp; done) | (simp; omega) | (have := HB.out.size; simp at *; omega)) _)⟩
  · have HT := Lib.hid (show (sumOf l, true) = sumR l by unfold sumR; rw [if_pos hh])
    have HK := Lib.hid (handB_true.1 hh).2.1
    have HZ := Lib.hid k0z
    go_wp2_with fail
    clear hh k0a k0b k0c k0d k0f k0z
    go_loopw [6, 7, 8, 16, 21] (fun _ _ _ i _ wr => ∃ k : Nat, k ≤ n ∧ i = .int .i64 k ∧ Hid (Below w.heap.size w wr) ∧ Hid (Box wr w.heap.size zero) ∧ Hid (Box wr w1.heap.size (sumOf (l.take k)))) (fun _ _ _ i _ _ => n - (intOf i).toNat)
    case atStart => exact ⟨0, Nat.zero_le _, rfl, Lib.hid (by repeat (first | with_reducible exact Below.refl _ _ | with_reducible exact HB.out | with_reducible apply Below.drew | with_reducible apply bdN | with_reducible refine Below.alloc ?_ (by first | exact Nat.le_refl _ | with_reducible exact HB.out.size | omega | (simp; done) | (simp; omega) | (have := HB.out.size; simp at *; omega)) _ | with_reducible refine Below.setCell ?_ (by first | exact Nat.le_refl _ | with_reducible exact HB.out.size | omega | (simp; done) | (simp; omega) | (have := HB.out.size; simp at *; omega)) _)), Lib.hid (K0.out.alloc _), by rw [List.take_zero]; exact Lib.hid (show Box _ _ zero from (by repeat (first | with_reducible exact HB.out | with_reducible apply Box.drewN | with_reducible apply Box.drew | (with_reducible refine Box.newAt ?_ ?_ <;> first | (simp; done) | rfl) | with_reducible apply Box.alloc)))⟩
    case round =>
      clear K0 HB
      obtain ⟨k, hk, rfl, HB, K0, K1⟩ := hrel
      obtain ⟨k1a, k1b, k1c, k1d⟩ := K1.out.cell
      have k1f := K1.out.frozen
      have k1z := K1.out.lt
      by_cases hlt : k < n
      · obtain ⟨b, o, x, rfl, hb, hx, c0, c1, c2, c3⟩ := HR.out.card_in HB.out (k := k) (by rw [HN.out]; exact hlt)
        obtain ⟨⟨x1, x2⟩, ⟨x3, x4⟩, ⟨x5, x6⟩, x7, x8⟩ := Cd.bd (ok_at HK.out hx)
        obtain ⟨⟨y1, y2⟩, ⟨y3, y4⟩, ⟨y5, y6⟩, y7, y8⟩ := Cd.bd (sum_ok (l.take k))
        have HX := Lib.hid (sum_snoc hx)
        clear hx
        generalize sumOf (l.take k) = s at *
        have hz := HZ.out
        have hw1 : b ≠ w1.heap.size := by omega
        have hw2 : w1.heap.size ≠ b := by omega
        have hw3 : wr.heap.size ≠ w1.heap.size := by omega
        have hw4 : w1.heap.size ≠ wr.heap.size := by omega
        have i0 : ∀ w : World, (Instr.index 25 x.val (.int .i64 0)).run Try.prog w = .ok (.int .i64 x.a) w := fun _ => by kernel_rfl
        have i1 : ∀ w : World, (Instr.index 25 x.val (.int .i64 1)).run Try.prog w = .ok (.int .i64 x.b) w := fun _ => by kernel_rfl
        have i2 : ∀ w : World, (Instr.index 25 x.val (.int .i64 2)).run Try.prog w = .ok (.int .i64 x.c) w := fun _ => by kernel_rfl
        have i3 : ∀ w : World, (Instr.index 25 x.val (.int .i64 3)).run Try.prog w = .ok (.int .i64 x.d) w := fun _ => by kernel_rfl
        have b0 : (0 : Int) ≤ (k : Int) := by omega
        have b1 : (k : Int) < (n : Int) := by omega
        go_wp2_with fail
        refine wp_loop_rounds 5 ?_
        repeat (rw [rounds_succ]; go_wp2_with fail)
        refine ⟨⟨k + 1, by omega, by go_num, ?_, ?_, ?_⟩, by simp [intOf]; omega⟩
        · have hh := HB.out.size
          exact Lib.hid (by repeat (first | with_reducible exact Below.refl _ _ | with_reducible exact HB.out | with_reducible apply Below.drew | with_reducible apply bdN | with_reducible refine Below.alloc ?_ (by first | exact Nat.le_refl _ | with_reducible exact HB.out.size | omega | (simp; done) | (simp; omega) | (have := HB.out.size; simp at *; omega)) _ | with_reducible refine Below.setCell ?_ (by first | exact Nat.le_refl _ | with_reducible exact HB.out.size | omega | (simp; done) | (simp; omega) | (have := HB.out.size; simp at *; omega)) _))
        · have h0 : w.heap.size ≠ w1.heap.size := by omega
          exact Lib.hid (by repeat (first | with_reducible exact K0.out | with_reducible apply Box.drewN | with_reducible apply Box.drew | with_reducible refine Box.far ?_ h0 _ | with_reducible apply Box.alloc))
        · rw [HX.out]
          exact Lib.hid ((K1.out.set_ (addC s x)).alloc _)
      · obtain rfl : k = n := by omega
        rw [sum_all HN.out] at K1
        clear k1a k1b k1c k1d k1f k1z
        obtain ⟨k1a, k1b, k1c, k1d⟩ := K1.out.cell
        obtain ⟨k0a, k0b, k0c, k0d⟩ := K0.out.cell
        have k0f := K0.out.frozen
        go_wp2_with fail
        rw [← HT.out]
        exact bodyPost_ret (v := .tuple #[(sumOf l).val, .bool true]) (by simp [results, Try.results59, go_sem, *]) rfl ⟨rfl, by repeat (first | with_reducible exact Below.refl _ _ | with_reducible exact HB.out | with_reducible apply Below.drew | with_reducible apply bdN | with_reducible refine Below.alloc ?_ (by first | exact Nat.le_refl _ | with_reducible exact HB.out.size | omega | (simp; done) | (simp; omega) | (have := HB.out.size; simp at *; omega)) _ | with_reducible refine Below.setCell ?_ (by first | exact Nat.le_refl _ | with_reducible exact HB.out.size | omega | (simp; done) | (simp; omega) | (have := HB.out.size; simp at *; omega)) _)⟩
end Go.Proofs.Ytjmlefcmhjodeaa.cards
