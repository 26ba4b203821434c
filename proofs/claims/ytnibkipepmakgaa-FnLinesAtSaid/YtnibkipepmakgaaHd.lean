/- Hands: a slice of cards that reads as a list of cards. -/
import Derived.Test.YtnibkipepmakgaaCd
import Derived.DeepKeys
namespace Go.Proofs.Ytnibkipepmakgaa.cards
open Go.RowKit
set_option linter.unusedVariables false

/-- The cells of a list of cards. -/
def flat (l : List Cd) : List Value := l.flatMap Cd.cells
theorem flat_len (l : List Cd) : (flat l).length = 4 * l.length := by
  induction l with
  | nil => rfl
  | cons x r ih => simp [flat, List.flatMap_cons, Cd.cells] at ih ⊢; omega
/-- Behind p the cells read as xs. -/
def Rd (w : World) (p : Option Addr) (xs : List Value) : Prop := 0 < xs.length → ∃ b o, p = some ⟨b, o, none⟩ ∧ b < w.heap.size ∧ ∀ j v, xs[j]? = some v → w.cell? ⟨b, o + j, none⟩ = some v
theorem Rd.below {w w1 : World} {p : Option Addr} {xs : List Value} (h : Rd w p xs) (hb : Below w.heap.size w w1) : Rd w1 p xs := fun hp => by
  obtain ⟨b, o, rfl, hlt, hc⟩ := h hp
  exact ⟨b, o, rfl, Nat.lt_of_lt_of_le hlt hb.size, fun j v hv => (hb.cell (p := ⟨b, o + j, none⟩) hlt).trans (hc j v hv)⟩
theorem Rd.alloc {w : World} {p : Option Addr} {xs : List Value} (h : Rd w p xs) (o : Obj) : Rd (w.alloc o) p xs := h.below ((Below.refl _ _).alloc (Nat.le_refl _) o)
theorem Rd.drew {w : World} {p : Option Addr} {xs : List Value} (h : Rd w p xs) : Rd w.drew p xs := h
theorem Rd.drewN {w : World} {p : Option Addr} {xs : List Value} (h : Rd w p xs) (k : Nat) : Rd (w.drewN k) p xs := h
theorem flat_at : ∀ (l : List Cd) (k : Nat) (x : Cd), l[k]? = some x → (flat l)[4 * k]? = some (.int .i64 x.a) ∧ (flat l)[4 * k + 1]? = some (.int .i64 x.b) ∧ (flat l)[4 * k + 2]? = some (.int .i64 x.c) ∧ (flat l)[4 * k + 3]? = some (.int .i64 x.d)
  | [], k, x, h => by simp at h
  | y :: r, 0, x, h => by
    obtain rfl : y = x := by simpa using h
    exact ⟨rfl, rfl, rfl, rfl⟩
  | y :: r, k + 1, x, h => by
    obtain ⟨h0, h1, h2, h3⟩ := flat_at r k x (by simpa using h)
    have e : ∀ j, (flat (y :: r))[4 * (k + 1) + j]? = (flat r)[4 * k + j]? := fun j => by
      show (Value.int .i64 y.a :: .int .i64 y.b :: .int .i64 y.c :: .int .i64 y.d :: flat r)[4 * (k + 1) + j]? = _
      rw [show 4 * (k + 1) + j = (4 * k + j) + 1 + 1 + 1 + 1 by omega]
      simp
    exact ⟨(e 0).trans h0, (e 1).trans h1, (e 2).trans h2, (e 3).trans h3⟩
/-- The cells of the card at a place. -/
theorem Rd.card {w : World} {p : Option Addr} {l : List Cd} (h : Rd w p (flat l)) {k : Nat} (hk : k < l.length) : ∃ b o x, p = some ⟨b, o, none⟩ ∧ b < w.heap.size ∧ l[k]? = some x ∧
    w.cell? ⟨b, o + k * 4, none⟩ = some (.int .i64 x.a) ∧ w.cell? ⟨b, o + k * 4 + 1, none⟩ = some (.int .i64 x.b) ∧ w.cell? ⟨b, o + k * 4 + 2, none⟩ = some (.int .i64 x.c) ∧ w.cell? ⟨b, o + k * 4 + 3, none⟩ = some (.int .i64 x.d) := by
  obtain ⟨b, o, e, hlt, hc⟩ := h (by rw [flat_len]; omega)
  have hx := List.getElem?_eq_getElem hk
  obtain ⟨h0, h1, h2, h3⟩ := flat_at l k _ hx
  refine ⟨b, o, _, e, hlt, hx, ?_, ?_, ?_, ?_⟩
  · rw [Nat.mul_comm]; exact hc _ _ h0
  · rw [Nat.mul_comm]; exact hc _ _ h1
  · rw [Nat.mul_comm]; exact hc _ _ h2
  · rw [Nat.mul_comm]; exact hc _ _ h3

/-- The cells of a card whose place and address are known. -/
theorem Rd.at_ {w : World} {b o : Nat} {l : List Cd} (h : Rd w (some ⟨b, o, none⟩) (flat l)) {k : Nat} {x : Cd} (hx : l[k]? = some x) :
    w.cell? ⟨b, o + k * 4, none⟩ = some (.int .i64 x.a) ∧ w.cell? ⟨b, o + k * 4 + 1, none⟩ = some (.int .i64 x.b) ∧ w.cell? ⟨b, o + k * 4 + 2, none⟩ = some (.int .i64 x.c) ∧ w.cell? ⟨b, o + k * 4 + 3, none⟩ = some (.int .i64 x.d) := by
  obtain ⟨b', o', x', e, _, hx', h0, h1, h2, h3⟩ := h.card (List.getElem?_eq_some_iff.1 hx).1
  injection e with e
  injection e with e1 e2
  subst e1; subst e2
  rw [hx] at hx'; injection hx' with hx'; subst hx'
  exact ⟨h0, h1, h2, h3⟩
/-- The same in a later world, the block known to be an old one. -/
theorem Rd.card_in {w w1 : World} {p : Option Addr} {l : List Cd} (h : Rd w p (flat l)) (hb : Below w.heap.size w w1) {k : Nat} (hk : k < l.length) : ∃ b o x, p = some ⟨b, o, none⟩ ∧ b < w.heap.size ∧ l[k]? = some x ∧
    w1.cell? ⟨b, o + k * 4, none⟩ = some (.int .i64 x.a) ∧ w1.cell? ⟨b, o + k * 4 + 1, none⟩ = some (.int .i64 x.b) ∧ w1.cell? ⟨b, o + k * 4 + 2, none⟩ = some (.int .i64 x.c) ∧ w1.cell? ⟨b, o + k * 4 + 3, none⟩ = some (.int .i64 x.d) := by
  obtain ⟨b, o, x, e, hlt, hx, h0, h1, h2, h3⟩ := h.card hk
  exact ⟨b, o, x, e, hlt, hx, (hb.cell (p := ⟨b, _, none⟩) hlt).trans h0, (hb.cell (p := ⟨b, _, none⟩) hlt).trans h1, (hb.cell (p := ⟨b, _, none⟩) hlt).trans h2, (hb.cell (p := ⟨b, _, none⟩) hlt).trans h3⟩
theorem Box.set_ {w : World} {g : Nat} {x : Cd} (h : Box w g x) (y : Cd) : Box ((((w.setCell ⟨g, 0, none⟩ (.int .i64 y.a)).setCell ⟨g, 1, none⟩ (.int .i64 y.b)).setCell ⟨g, 2, none⟩ (.int .i64 y.c)).setCell ⟨g, 3, none⟩ (.int .i64 y.d)) g y := by
  unfold Box at h ⊢
  rw [heap_setCell_same _ g 3 _ _ _ (heap_setCell_same _ g 2 _ _ _ (heap_setCell_same _ g 1 _ _ _ (heap_setCell_same w g 0 _ _ _ h)))]
  rfl
theorem Box.newD (w : World) (x : Cd) : Box (w.alloc x.obj).drew w.heap.size x := Box.new w x
theorem Box.far {w : World} {g : Nat} {x : Cd} (h : Box w g x) {p : Addr} (hp : g ≠ p.block) (u : Value) : Box (w.setCell p u) g x := (Below.heap_setCell w p u g hp).trans h
theorem Rd.of_block {w : World} {g : Nat} {cs : Array Value} {t : TypeId} {fr : Nat × Nat} {xs : List Value} (h : w.heap[g]? = some (.cells cs t fr)) (hx : cs.toList = xs) : Rd w (some ⟨g, 0, none⟩) xs := fun _ => by
  subst hx
  refine ⟨g, 0, rfl, ?_, fun j v hv => ?_⟩
  · rcases Nat.lt_or_ge g w.heap.size with h1 | h1
    · exact h1
    · rw [Array.getElem?_eq_none h1] at h; cases h
  · rw [cell_of_row w g _ cs t fr h, Nat.zero_add]; simpa using hv
theorem Rd.newAt {w : World} {g : Nat} {cs : Array Value} {t : TypeId} {xs : List Value} (hg : w.heap.size = g) (hx : cs.toList = xs) : Rd (w.alloc (.cells cs t)) (some ⟨g, 0, none⟩) xs := by subst hg; exact Rd.of_block (heap_alloc_new _ _) hx
def lits (x : Cd) : List Lit := [.int .i64 x.a, .int .i64 x.b, .int .i64 x.c, .int .i64 x.d]
theorem wf_small {n : Int} (h0 : 0 ≤ n) (h1 : n ≤ 1000) : (Lit.int .i64 n).wf = true := WalkArith.wf_i64 (by omega)
theorem key_lits (x : Cd) (h : x.ok = true) : (Try.prog).keyLits 3 54 x.val.cells.toList = some (lits x) := by
  obtain ⟨⟨x1, x2⟩, ⟨x3, x4⟩, ⟨x5, x6⟩, x7, x8⟩ := Cd.bd h
  have w1 := wf_small x1 (by omega)
  have w2 := wf_small x3 (by omega)
  have w3 := wf_small x5 (by omega)
  have w4 := wf_small x7 (by omega)
  have ce : (Try.prog).cellsOf 3 = 1 := by kernel_rfl
  have ct : (Try.prog).cellsOf 54 = 4 := by kernel_rfl
  simp [Program.keyLits, Try.underlying54, Try.underlying3, Value.cells, ce, ct, w1, w2, w3, w4, show List.range 4 = [0, 1, 2, 3] from rfl, lits]
theorem eq_run (x y : Cd) (hx : x.ok = true) (hy : y.ok = true) (w : World) : (Op.equalIn 10000 54 x.val y.val).run Try.prog w = .ok (same x y) w := by
  obtain ⟨r, hr, hi⟩ := run_equalIn_deep (P := Try.prog) 9998 2 54 (by kernel_rfl) w 3 3 x.val y.val (lits x) (lits y) (by kernel_rfl) (by kernel_rfl) (key_lits x hx) (key_lits y hy)
  have e : r = same x y := by
    rw [Bool.eq_iff_iff, hi]
    simp [lits, same]
  rw [← e]
  exact hr
theorem same_iff {x y : Cd} : same x y = true ↔ x = y := by
  obtain ⟨a, b, c, d⟩ := x
  obtain ⟨e, f, g, h⟩ := y
  simp [same]
theorem ret_two {v : Value} {a b : Bool} (h : a = b) : Ending.returned (.tuple #[v, .bool a]) = .returned (.tuple #[v, .bool b]) := by rw [h]
theorem ret_ib {a b : Int} {c d : Bool} (h : (a, c) = (b, d)) : Ending.returned (.tuple #[.int .i64 a, .bool c]) = .returned (.tuple #[.int .i64 b, .bool d]) := by cases h; rfl
theorem ret_bb {a b c d : Bool} (h : (a, c) = (b, d)) : Ending.returned (.tuple #[.bool a, .bool c]) = .returned (.tuple #[.bool b, .bool d]) := by cases h; rfl
theorem all_bad {l : List Cd} {k : Nat} {x : Cd} (h : l[k]? = some x) (hx : x.ok = false) : false = l.all Cd.ok := by
  symm
  rw [List.all_eq_false]
  exact ⟨x, List.mem_of_getElem? h, by simp [hx]⟩
theorem take_snoc {α : Type} {l : List α} {k : Nat} {x : α} (h : l[k]? = some x) : l.take (k + 1) = l.take k ++ [x] := by rw [List.take_add_one, h]; rfl
theorem all_more {l : List Cd} {k : Nat} {x : Cd} (h : l[k]? = some x) (hk : (l.take k).all Cd.ok = true) (hx : x.ok = true) : (l.take (k + 1)).all Cd.ok = true := by rw [take_snoc h]; simp [hk, hx]
theorem all_good {l : List Cd} {k : Nat} (hk : (l.take k).all Cd.ok = true) (h : l.length = k) : true = l.all Cd.ok := by rw [← h, List.take_length] at hk; exact hk.symm

set_option maxRecDepth 100000 in
set_option maxHeartbeats 1000000 in
theorem are_cards (l : List Cd) (p : Option Addr) (n c : Nat) (w : World) (hn : l.length = n) (hl : n ≤ 1000000000) (hr : Rd w p (flat l)) :
    Calls Try.prog 46 #[.slice p n c] w fun e w' => e = .returned (.bool (l.all Cd.ok)) ∧ Below w.heap.size w w' := by
  have HN := Lib.hid hn
  have HR := Lib.hid hr
  clear hn hr
  go_enter Try.func46, Try.ntmps46
  go_wp2_with fail
  go_loopw [7] (fun i wr => ∃ k : Nat, k ≤ n ∧ i = .int .i64 k ∧ Hid ((l.take k).all Cd.ok = true) ∧ Hid (Below w.heap.size w wr)) (fun i _ => n - (intOf i).toNat)
  case atStart => exact ⟨0, Nat.zero_le _, rfl, rfl, Below.refl _ _⟩
  case round =>
    obtain ⟨k, hk, rfl, HA, HB⟩ := hrel
    by_cases hlt : k < n
    · obtain ⟨b, o, x, rfl, hb, hx, c0, c1, c2, c3⟩ := (HR.out.below HB.out).card (k := k) (by rw [HN.out]; exact hlt)
      have HX := Lib.hid hx
      have b0 : (0 : Int) ≤ (k : Int) := by omega
      have b1 : (k : Int) < (n : Int) := by omega
      clear hx
      go_wp2_with fail
      refine ((is_card x _)).mono ?_
      rintro e w1 ⟨rfl, b⟩
      have Sw1 := Lib.hid b.size
      have HB := Lib.hid (chain0 (w := w) (by repeat (first | with_reducible exact Below.refl _ _ | with_reducible exact HB.out | with_reducible apply Below.drew | with_reducible apply bdN | with_reducible refine Below.alloc ?_ (by first | exact Nat.le_refl _ | with_reducible exact HB.out.size | omega | (simp; done) | (simp; omega) | (have := HB.out.size; simp at *; omega)) _ | with_reducible refine Below.setCell ?_ (by first | exact Nat.le_refl _ | with_reducible exact HB.out.size | omega | (simp; done) | (simp; omega) | (have := HB.out.size; simp at *; omega)) _)) b)
      clear b
      cases hok : x.ok
      · go_wp2_with fail
        go_ret
        exact ⟨ret_bool (all_bad HX.out hok), HB.out⟩
      · have HM := Lib.hid (all_more HX.out HA.out hok)
        go_wp2_with fail
        go_roundw
        case rel => exact ⟨k + 1, by omega, by go_num, HM, HB⟩
        case measure => simp [intOf]; omega
    · obtain rfl : k = n := by omega
      go_wp2_with fail
      go_ret
      exact ⟨ret_bool (all_good HA.out HN.out), HB.out⟩
end Go.Proofs.Ytnibkipepmakgaa.cards