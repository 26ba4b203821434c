/- Merged texts: Bm, Mp, Bk, No, Nb, Nf, Fc, Na, Cl, Ak, Cq, Fs, Go. -/
import Derived.Test.YtcedbhgjabheaaaPm
import Derived.Test.YtcedbhgjabheaaaHd
import Derived.Maps.OwnSet
import Derived.Maps.OwnOps
import Derived.DeepKeys4
import Derived.Test.YtcedbhgjabheaaaPw
import Derived.Test.YtcedbhgjabheaaaAn
import Derived.Test.YtcedbhgjabheaaaIs
import Derived.Test.YtcedbhgjabheaaaNm
import Derived.Test.YtcedbhgjabheaaaLm
import Derived.Test.YtcedbhgjabheaaaHs
import Derived.Test.YtcedbhgjabheaaaCa
import Derived.Test.YtcedbhgjabheaaaAp
import Derived.Test.YtcedbhgjabheaaaGm
/- What a hand blocks, and what is free: pairs of cards, as sets. -/
namespace Go.Proofs.Ytcedbhgjabheaaa.cards
open Go.RowKit
set_option linter.unusedVariables false

/-- Is y the third card of the i-th card and one before it, i below k, or i = k and that one below j? -/
noncomputable def thirds (l : List Cd) (k j : Nat) (y : Cd) : Bool := @decide (∃ (i m : Nat) (a b : Cd), m < i ∧ (i < k ∨ (i = k ∧ m < j)) ∧ l[i]? = some a ∧ l[m]? = some b ∧ third a b = y) (Classical.propDecidable _)
theorem thirds_iff {l : List Cd} {k j : Nat} {y : Cd} : thirds l k j y = true ↔ ∃ (i m : Nat) (a b : Cd), m < i ∧ (i < k ∨ (i = k ∧ m < j)) ∧ l[i]? = some a ∧ l[m]? = some b ∧ third a b = y := by simp [thirds]
theorem thirds_zero (l : List Cd) (y : Cd) : false = thirds l 0 0 y := by
  symm; rw [Bool.eq_false_iff]; intro h
  obtain ⟨i, m, a, b, h1, h2, _⟩ := thirds_iff.1 h
  omega
theorem thirds_step {l : List Cd} {k j : Nat} {a b : Cd} (hj : j < k) (ha : l[k]? = some a) (hb : l[j]? = some b) (y : Cd) : (same y (third a b) || thirds l k j y) = thirds l k (j + 1) y := by
  rw [Bool.eq_iff_iff, Bool.or_eq_true, same_iff, thirds_iff, thirds_iff]
  constructor
  · rintro (rfl | ⟨i, m, x, z, h1, h2, h3⟩)
    · exact ⟨k, j, a, b, hj, .inr ⟨rfl, by omega⟩, ha, hb, rfl⟩
    · exact ⟨i, m, x, z, h1, by omega, h3⟩
  · rintro ⟨i, m, x, z, h1, h2, hx, hz, h3⟩
    by_cases e : i = k ∧ m = j
    · obtain ⟨rfl, rfl⟩ := e
      rw [ha] at hx; rw [hb] at hz
      injection hx with hx; injection hz with hz
      subst hx; subst hz
      exact .inl h3.symm
    · exact .inr ⟨i, m, x, z, h1, by omega, hx, hz, h3⟩
theorem thirds_next (l : List Cd) (k : Nat) (y : Cd) : thirds l k k y = thirds l (k + 1) 0 y := by
  rw [Bool.eq_iff_iff, thirds_iff, thirds_iff]
  constructor
  · rintro ⟨i, m, x, z, h1, h2, h3⟩; exact ⟨i, m, x, z, h1, by omega, h3⟩
  · rintro ⟨i, m, x, z, h1, h2, h3⟩; exact ⟨i, m, x, z, h1, by omega, h3⟩
theorem thirds_all {l : List Cd} {n : Nat} {y : Cd} (hn : l.length = n) (hs : sorted l) (hok : l.all Cd.ok = true) (hy : y.ok = true) : thirds l n 0 y = decide (0 < thr l y n) := by
  rw [Bool.eq_iff_iff, thirds_iff, decide_eq_true_eq, thr_pos hn hs hok hy]
  constructor
  · rintro ⟨i, m, a, b, h1, h2, ha, hb, rfl⟩
    refine ⟨m, i, b, a, h1, hb, ha, ?_⟩
    have hlt := sorted_lt hs h1 hb ha
    have hne : same b a = false := by
      rw [Bool.eq_false_iff]; intro hh; have h5 := same_iff.1 hh; rw [h5] at hlt; omega
    unfold line
    rw [hne, third_comm b a]; simp [same]
  · rintro ⟨i, j, x, z, hij, hx, hz, hl⟩
    have hj := (List.getElem?_eq_some_iff.1 hz).1
    unfold line at hl
    have e := same_iff.1 ((Bool.and_eq_true _ _).mp hl).2
    exact ⟨j, i, z, x, hij, .inl (by omega), hz, hx, by rw [third_comm]; exact e⟩
/-- Blocked, and not struck yet: none of the first k cards. -/
noncomputable def left (l : List Cd) (n k : Nat) (y : Cd) : Bool := thirds l n 0 y && !((l.take k).any fun x => same y x)
theorem left_zero (l : List Cd) (n : Nat) (y : Cd) : thirds l n 0 y = left l n 0 y := by simp [left]
theorem left_step {l : List Cd} {n k : Nat} {x : Cd} (hx : l[k]? = some x) (y : Cd) : (!same y x && left l n k y) = left l n (k + 1) y := by
  unfold left
  rw [take_snoc hx, List.any_append, show [x].any (fun z => same y z) = same y x by simp]
  cases thirds l n 0 y <;> cases same y x <;> cases (l.take k).any (fun x => same y x) <;> rfl
/-- Is the card blocked by a hand? -/
noncomputable def blk (l : List Cd) (y : Cd) : Bool := !there l y && decide (0 < thr l y l.length)
noncomputable def fre (l : List Cd) (y : Cd) : Bool := !there l y && !decide (0 < thr l y l.length)
theorem left_all {l : List Cd} {n : Nat} {y : Cd} (hn : l.length = n) (hs : sorted l) (hok : l.all Cd.ok = true) (hy : y.ok = true) : left l n n y = blk l y := by
  unfold left blk
  rw [thirds_all hn hs hok hy, hn, Bool.and_comm]
  congr 2
  rw [← hn, List.take_length, Bool.eq_iff_iff, there_mem hs hok hy, List.any_eq_true]
  constructor
  · rintro ⟨x, h1, h2⟩; rw [same_iff.1 h2]; exact h1
  · intro h; exact ⟨y, h, same_iff.2 rfl⟩
theorem fre_blk (l : List Cd) (y : Cd) : (!there l y && !blk l y) = fre l y := by
  unfold blk fre
  cases there l y <;> simp
end Go.Proofs.Ytcedbhgjabheaaa.cards

/- Maps from cards to truth values that a call makes. -/
namespace Go.Proofs.Ytcedbhgjabheaaa.cards
open Go.RowKit
open Go.Maps (Keyed)
set_option linter.unusedVariables false

theorem laidOutM : laidOutB Try.prog = true := by kernel_rfl
theorem rowM : 43 < (Try.prog).types.size := of_decide_eq_true (by kernel_rfl)
theorem wideM : (match (Try.prog).underlying 43 with | some (.array _ _) | some (.struct _) => true | _ => false) = true := by rw [Try.underlying43]
theorem mlaw : Keyed Try.prog 43 := Keyed.of_law (deep_law_laid laidOutM (m := 2) (by omega) rowM (by kernel_rfl) wideM)
theorem key_litsN (d : Nat) (x : Cd) (h : x.ok = true) : (Try.prog).keyLits (d + 2) 43 x.val.cells.toList = some (lits x) := by
  obtain ⟨⟨a1, a2⟩, ⟨b1, b2⟩, ⟨c1, c2⟩, d1, d2⟩ := Cd.bd h
  have w1 := wf_small a1 (by omega)
  have w2 := wf_small b1 (by omega)
  have w3 := wf_small c1 (by omega)
  have w4 := wf_small d1 (by omega)
  have ce : (Try.prog).cellsOf 3 = 1 := by kernel_rfl
  have ct : (Try.prog).cellsOf 43 = 4 := by kernel_rfl
  simp [Program.keyLits, Try.underlying43, Try.underlying3, Value.cells, ce, ct, w1, w2, w3, w4, show List.range 4 = [0, 1, 2, 3] from rfl, lits]
/-- What a card reads as, as a key. -/
def kl (x : Cd) : Lit := .string (keyBytes (lits x))
theorem mkey {x : Cd} (h : x.ok = true) : keyOf Try.prog 43 x.val = some (kl x) := by
  obtain ⟨d, hd⟩ : ∃ d, (Try.prog).types.size + 1 = d + 2 := ⟨(Try.prog).types.size - 1, by have := rowM; omega⟩
  have ht : (Try.prog).keyType 43 = true := by kernel_rfl
  have ct : (Try.prog).cellsOf 43 = 4 := by kernel_rfl
  have hf : x.val.formed Try.prog 43 = true := by simp [Value.formed, Try.underlying43, ct]
  unfold keyOf
  rw [Try.underlying43]
  simp only [ht, hf, Bool.and_self, if_true, hd, key_litsN d x h]
  rfl
theorem kl_key {x : Cd} (h : x.ok = true) : WideAt.IsKeyLit (kl x) := mlaw.key (mkey h)
theorem kl_inj {x y : Cd} (hx : x.ok = true) (hy : y.ok = true) (h : kl x = kl y) : x = y := by
  have h1 := mkey hx
  have h2 := mkey hy
  rw [← h] at h2
  have e := mlaw.inj h1 h2
  obtain ⟨a, b, c, d⟩ := x
  obtain ⟨a', b', c', d'⟩ := y
  simp at e
  obtain ⟨rfl, rfl, rfl, rfl⟩ := e
  rfl

/-- Block g is a map of at most m entries; S tells the cards at which it holds true. -/
def MapB (w : World) (g m : Nat) (S : Cd → Bool) : Prop := ∃ D : DataW Unit, w.ownsMap Try.prog 43 (plainElem Try.prog 4) g m D ∧ ∀ x : Cd, x.ok = true → D.atKey (kl x) (.lit (.bool false)) = .lit (.bool (S x))
theorem MapB.made (w : World) : MapB (w.alloc (.map #[] 0)) w.heap.size 0 (fun _ => false) := ⟨_, World.ownsMap_made w Try.prog _ _, fun x _ => rfl⟩
theorem MapB.lt {w : World} {g m : Nat} {S : Cd → Bool} (h : MapB w g m S) : g < w.heap.size := by obtain ⟨D, h1, _⟩ := h; exact h1.lt
theorem MapB.kept {w w' : World} {g m : Nat} {S : Cd → Bool} {row : Option Nat} (h : MapB w g m S) (hg : w.grownBy w' row) (hne : some g ≠ row) : MapB w' g m S := by
  obtain ⟨D, h1, h2⟩ := h
  exact ⟨D, h1.kept hg hne, h2⟩
theorem MapB.below {w w1 : World} {g m : Nat} {S : Cd → Bool} (h : MapB w g m S) (hb : Below w.heap.size w w1) : MapB w1 g m S :=
  h.kept (row := none) ⟨hb.os, hb.tape, hb.output, hb.size, fun j hj _ => hb.block j hj⟩ (by simp)
theorem MapB.alloc {w : World} {g m : Nat} {S : Cd → Bool} (h : MapB w g m S) (o : Obj) : MapB (w.alloc o) g m S := h.kept (World.grownBy_alloc w o none) (by simp)
theorem MapB.drew {w : World} {g m : Nat} {S : Cd → Bool} (h : MapB w g m S) : MapB w.drew g m S := h
theorem MapB.drewN {w : World} {g m : Nat} {S : Cd → Bool} (h : MapB w g m S) (n : Nat) : MapB (w.drewN n) g m S := h
theorem MapB.mono {w : World} {g m m' : Nat} {S : Cd → Bool} (h : MapB w g m S) (hm : m ≤ m') : MapB w g m' S := by
  obtain ⟨D, h1, h2⟩ := h
  exact ⟨D, h1.mono hm, h2⟩
theorem MapB.ext {w : World} {g m : Nat} {S S' : Cd → Bool} (h : MapB w g m S) (hs : ∀ x, x.ok = true → S x = S' x) : MapB w g m S' := by
  obtain ⟨D, h1, h2⟩ := h
  exact ⟨D, h1, fun x hx => by rw [h2 x hx, hs x hx]⟩
theorem plainElem_bool_inv {H : Type} {P : Program} {e : TypeId} (he : P.underlying e = some .bool) {v : Value} {z : DataW H × List MemPlace} (h : plainElem P e v = some z) : ∃ b, v = .bool b ∧ z = (.lit (.bool b), []) := by
  unfold plainElem at h
  rw [he] at h
  cases v <;> simp at h
  exact ⟨_, rfl, h.symm⟩
theorem zeroB (w : World) : (zeroValue 4).run Try.prog w = .ok (.bool false) w := by kernel_rfl
end Go.Proofs.Ytcedbhgjabheaaa.cards

/- The program's map of what a hand blocks. -/
namespace Go.Proofs.Ytcedbhgjabheaaa.cards
open Go.RowKit
set_option linter.unusedVariables false

theorem Box.by_ {w w1 : World} {g m : Nat} {x : Cd} (h : Box w g x) (hg : w.grownBy w1 (some m)) (hne : m ≠ g) : Box w1 g x :=
  (hg.block g h.lt (fun e => hne (by injection e with e; exact e.symm))).trans h

end Go.Proofs.Ytcedbhgjabheaaa.cards

/- The numbers of the cards of which a function value says yes. -/
namespace Go.Proofs.Ytcedbhgjabheaaa.cards
open Go.RowKit
set_option linter.unusedVariables false

theorem OwnI.base {w : World} {B B' : Nat} {v : Value} {l : List Int} (h : OwnI w B v l) (hB : B' ≤ B) : OwnI w B' v l := by
  obtain ⟨hl, h0 | ⟨g, cap, cur, e, hb, r⟩⟩ := h
  · exact ⟨hl, .inl h0⟩
  · exact ⟨hl, .inr ⟨g, cap, cur, e, Nat.le_trans hB hb, r⟩⟩
/-- A captured slice of cards: a block of one cell. -/
def BoxH (w : World) (g : Nat) (v : Value) : Prop := w.heap[g]? = some (.cells #[v] 22)
theorem BoxH.lt {w : World} {g : Nat} {v : Value} (h : BoxH w g v) : g < w.heap.size := (Array.getElem?_eq_some_iff.1 h).1
theorem BoxH.new (w : World) (v : Value) : BoxH (w.alloc (.cells #[v] 22)) w.heap.size v := heap_alloc_new w _
theorem BoxH.below {w w1 : World} {g : Nat} {v : Value} (h : BoxH w g v) (b : Below w.heap.size w w1) : BoxH w1 g v := (b.block g h.lt).trans h
theorem BoxH.alloc {w : World} {g : Nat} {v : Value} (h : BoxH w g v) (o : Obj) : BoxH (w.alloc o) g v := (Below.heap_alloc w o g h.lt).trans h
theorem BoxH.drew {w : World} {g : Nat} {v : Value} (h : BoxH w g v) : BoxH w.drew g v := h
theorem BoxH.drewN {w : World} {g : Nat} {v : Value} (h : BoxH w g v) (n : Nat) : BoxH (w.drewN n) g v := h
theorem BoxH.cell {w : World} {g : Nat} {v : Value} (h : BoxH w g v) : w.cell? ⟨g, 0, none⟩ = some v := (cell_of_row w g 0 _ _ _ h).trans rfl
end Go.Proofs.Ytcedbhgjabheaaa.cards

/- The numbers of the cards of which a closure says yes: blocked. -/
namespace Go.Proofs.Ytcedbhgjabheaaa.cards
open Go.RowKit
set_option linter.unusedVariables false

end Go.Proofs.Ytcedbhgjabheaaa.cards

/- The numbers of the cards of which a closure says yes: free. -/
namespace Go.Proofs.Ytcedbhgjabheaaa.cards
open Go.RowKit
set_option linter.unusedVariables false

end Go.Proofs.Ytcedbhgjabheaaa.cards

/- BlockedCards, FreeCards: the program. -/
namespace Go.Proofs.Ytcedbhgjabheaaa.cards
open Go.RowKit
set_option linter.unusedVariables false

noncomputable def freeR (l : List Cd) : List Int × Bool := if handB l = true then (nums (fre l) 81, true) else ([], false)
noncomputable def blkR (l : List Cd) : List Int × Bool := if handB l = true then (nums (blk l) 81, true) else ([], false)
theorem freeR_len (l : List Cd) : (freeR l).1.length ≤ 1000 := by
  unfold freeR
  split
  · exact Nat.le_trans (nums_len _ _) (by omega)
  · simp
theorem blkR_len (l : List Cd) : (blkR l).1.length ≤ 1000 := by
  unfold blkR
  split
  · exact Nat.le_trans (nums_len _ _) (by omega)
  · simp

end Go.Proofs.Ytcedbhgjabheaaa.cards

/- The numbers of the cards of which a closure says yes: anchor. -/
namespace Go.Proofs.Ytcedbhgjabheaaa.cards
open Go.RowKit
set_option linter.unusedVariables false

end Go.Proofs.Ytcedbhgjabheaaa.cards

/- CapLines: the program and the model alike. -/
namespace Go.Proofs.Ytcedbhgjabheaaa.cards
open Go.RowKit
set_option linter.unusedVariables false

noncomputable def clR (l : List Cd) (c : Cd) : List A2 × Bool := if handB l = true ∧ c.ok = true ∧ there l c = false then (prs l c l.length, true) else ([], false)
theorem clR_len (l : List Cd) (c : Cd) : (clR l c).1.length ≤ 1000 := by
  unfold clR
  split
  · rename_i h
    have h1 := (handB_true.1 h.1).1
    have h2 := prs_le l c l.length
    show (prs l c l.length).length ≤ _
    omega
  · simp
end Go.Proofs.Ytcedbhgjabheaaa.cards

/- AnchorsOf: the program and the model alike. -/
namespace Go.Proofs.Ytcedbhgjabheaaa.cards
open Go.RowKit
set_option linter.unusedVariables false

noncomputable def ancR (l : List Cd) : List Int × Bool := if handB l = true ∧ 0 < l.length then (nums (anchor l) 81, true) else ([], false)
theorem ancR_len (l : List Cd) : (ancR l).1.length ≤ 1000 := by
  unfold ancR
  split
  · exact Nat.le_trans (nums_len _ _) (by omega)
  · simp

set_option maxRecDepth 100000 in
set_option maxHeartbeats 1000000 in
theorem l2_at (n : Int) (w : World) (h0 : 0 ≤ n) (h1 : n ≤ 80) :
    Calls Try.prog 89 #[.int .i64 n] w fun e w' => e = .returned (cdAt n).val ∧ Below w.heap.size w w' := by
  go_enter Try.func89, Try.ntmps89
  go_wp2_with fail
  exact bodyPost_ret (v := (cdAt n).val) (by simp [results, Try.results89, go_sem, cdAt, *]) rfl ⟨rfl, by repeat (first | with_reducible exact Below.refl _ _ | with_reducible exact HB.out | with_reducible apply Below.drew | with_reducible apply bdN | with_reducible refine Below.alloc ?_ (by first | exact Nat.le_refl _ | with_reducible exact HB.out.size | omega | (simp; done) | (simp; omega) | (have := HB.out.size; simp at *; omega)) _ | with_reducible refine Below.setCell ?_ (by first | exact Nat.le_refl _ | with_reducible exact HB.out.size | omega | (simp; done) | (simp; omega) | (have := HB.out.size; simp at *; omega)) _)⟩

end Go.Proofs.Ytcedbhgjabheaaa.cards

/- IsCap: the program and the model alike. -/
namespace Go.Proofs.Ytcedbhgjabheaaa.cards
open Go.RowKit
set_option linter.unusedVariables false

set_option maxRecDepth 100000 in
set_option maxHeartbeats 4000000 in
theorem are_cap (l : List Cd) (p : Option Addr) (n cp : Nat) (w : World) (hn : l.length = n) (hl : n ≤ 1000) (hcp : n ≤ cp) (hr : Rd w p (flat l)) (hok : l.all Cd.ok = true) (hs : sorted l) :
    Calls Try.prog 66 #[.slice p n cp] w fun e w' => e = .returned (.bool (capB l)) ∧ Below w.heap.size w w' := by
  have HN := Lib.hid hn
  have HR0 := Lib.hid hr
  have HS := Lib.hid hs
  have HK := Lib.hid hok
  clear hn hr hs hok
  go_enter Try.func66, Try.ntmps66
  go_wp2_with fail
  go_loopw [3, 4, 7] (fun _ _ i wr => ∃ k : Nat, k ≤ n ∧ i = .int .i64 k ∧ Hid (∀ j z, j < k → l[j]? = some z → (0 < thr (l.take j) z j → False)) ∧ Hid (Below w.heap.size w wr)) (fun _ _ i _ => n - (intOf i).toNat)
  case atStart => exact ⟨0, Nat.zero_le _, rfl, Lib.hid (fun j z hj => absurd hj (Nat.not_lt_zero j)), Lib.hid (by repeat (first | with_reducible exact Below.refl _ _ | with_reducible exact HB.out | with_reducible apply Below.drew | with_reducible apply bdN | with_reducible refine Below.alloc ?_ (by first | exact Nat.le_refl _ | with_reducible exact HB.out.size | omega | (simp; done) | (simp; omega) | (have := HB.out.size; simp at *; omega)) _ | with_reducible refine Below.setCell ?_ (by first | exact Nat.le_refl _ | with_reducible exact HB.out.size | omega | (simp; done) | (simp; omega) | (have := HB.out.size; simp at *; omega)) _))⟩
  case round =>
    obtain ⟨k, hk, rfl, HF, HB⟩ := hrel
    by_cases hlt : k < n
    · have HR := Lib.hid (HR0.out.below HB.out)
      obtain ⟨b, o, x, rfl, hb, hx, c0, c1, c2, c3⟩ := HR.out.card (k := k) (by rw [HN.out]; exact hlt)
      have HXa := Lib.hid hx
      have HX := Lib.hid (ok_at HK.out hx)
      have m0 : (0 : Int) ≤ (k : Int) := by omega
      have m1 : (k : Int) < (n : Int) := by omega
      have m2 : k ≤ cp := by omega
      have m3 : (k : Int) ≤ (cp : Int) := by omega
      have hkn : (l.take k).length = k := by rw [List.length_take, HN.out]; omega
      have HKN := Lib.hid hkn
      clear hx hkn
      go_wp2_with fail
      obtain ⟨w2, ew, b⟩ : ∃ wOPN : World, wOPN = (wr.alloc x.obj) ∧ Below ((wr.alloc x.obj)).heap.size ((wr.alloc x.obj)) wOPN := ⟨_, rfl, Below.refl _ _⟩
      rw [← ew]
      clear ew
      have Sw2 := Lib.hid b.size
      have HB := Lib.hid (chain0 (w := w) (by repeat (first | with_reducible exact Below.refl _ _ | with_reducible exact HB.out | with_reducible apply Below.drew | with_reducible apply bdN | with_reducible refine Below.alloc ?_ (by first | exact Nat.le_refl _ | with_reducible exact HB.out.size | omega | (simp; done) | (simp; omega) | (have := HB.out.size; simp at *; omega)) _ | with_reducible refine Below.setCell ?_ (by first | exact Nat.le_refl _ | with_reducible exact HB.out.size | omega | (simp; done) | (simp; omega) | (have := HB.out.size; simp at *; omega)) _)) b)
      have HR := Lib.hid (Rd.below (by repeat (first | with_reducible exact HR.out | with_reducible apply Rd.drewN | with_reducible apply Rd.drew | with_reducible apply Rd.alloc)) b)
      have K1 : Hid (Box _ (wr.heap.size) (x)) := Lib.hid (Box.below (by repeat (first | with_reducible exact K1.out | with_reducible apply Box.drewN | with_reducible apply Box.drew | (with_reducible refine Box.newAt ?_ ?_ <;> first | (simp; done) | rfl) | with_reducible apply Box.alloc)) b)
      try clear k1a k1b k1c k1d k1z
      have k1z := K1.out.lt
      obtain ⟨k1a, k1b, k1c, k1d⟩ := K1.out.cell
      clear b
      clear c0 c1 c2 c3
      have HP := fun w' (hw : Below w2.heap.size w2 w') => makes_line (l.take k) x (some ⟨b, o, none⟩) k cp w' HKN.out (by omega) ((HR.out.below hw).take k) (take_ok HK.out k) HX.out (take_sorted HS.out k)
      obtain ⟨t, ht⟩ : ∃ t, decide (0 < thr (l.take k) x k) = t := ⟨_, rfl⟩
      rw [ht] at HP
      have HP3 := Lib.hid HP
      have HT := Lib.hid ht
      clear HP ht
      have qk1a := fun d os => cell_regrown k1a d os
      have qk1b := fun d os => cell_regrown k1b d os
      have qk1c := fun d os => cell_regrown k1c d os
      have qk1d := fun d os => cell_regrown k1d d os
      refine wp_region_quiet_below (by kernel_rfl) (by kernel_rfl) ?_
      repeat (first | go_big_quiet_step ((go_at_call 90; with_reducible exact Calls.regrown_of (HP3.out _ (below_regrown _ _ _)))) | quiet_step ((go_at_call 90; with_reducible exact Calls.regrown_of (HP3.out _ (below_regrown _ _ _)))))
      refine wpQuiet_nil ?_
      intro w3 hw2
      have b : Below w2.heap.size w2 w3 := by obtain ⟨r, hr⟩ := hw2; rw [hr]; exact below_regrown _ _ _
      clear hw2 qk1a qk1b qk1c qk1d
      have Sw3 := Lib.hid b.size
      have HB := Lib.hid (chain0 (w := w) (by repeat (first | with_reducible exact Below.refl _ _ | with_reducible exact HB.out | with_reducible apply Below.drew | with_reducible apply bdN | with_reducible refine Below.alloc ?_ (by first | exact Nat.le_refl _ | with_reducible exact HB.out.size | omega | (simp; done) | (simp; omega) | (have := HB.out.size; simp at *; omega)) _ | with_reducible refine Below.setCell ?_ (by first | exact Nat.le_refl _ | with_reducible exact HB.out.size | omega | (simp; done) | (simp; omega) | (have := HB.out.size; simp at *; omega)) _)) b)
      have HR := Lib.hid (Rd.below (by repeat (first | with_reducible exact HR.out | with_reducible apply Rd.drewN | with_reducible apply Rd.drew | with_reducible apply Rd.alloc)) b)
      have K1 : Hid (Box _ (wr.heap.size) (x)) := Lib.hid (Box.below (by repeat (first | with_reducible exact K1.out | with_reducible apply Box.drewN | with_reducible apply Box.drew | (with_reducible refine Box.newAt ?_ ?_ <;> first | (simp; done) | rfl) | with_reducible apply Box.alloc)) b)
      try clear k1a k1b k1c k1d k1z
      have k1z := K1.out.lt
      obtain ⟨k1a, k1b, k1c, k1d⟩ := K1.out.cell
      clear b
      cases t
      · go_wp2_with fail
        go_roundw
        case rel => exact ⟨k + 1, by omega, by go_num, Lib.hid (fun j z hj hz => by
            by_cases hjk : j < k
            · exact HF.out j z hjk hz
            · obtain rfl : j = k := by omega
              have hxx := HXa.out
              rw [hz] at hxx; injection hxx with hxx; subst hxx
              exact of_decide_eq_false HT.out), HB⟩
        case measure => simp [intOf]; omega
      · go_wp2_with fail
        go_ret
        exact ⟨ret_bool (cap_stop HS.out HK.out HXa.out (of_decide_eq_true HT.out)).symm, HB.out⟩
    · obtain rfl : k = n := by omega
      go_wp2_with fail
      go_ret
      exact ⟨ret_bool (cap_all HN.out HS.out HK.out (fun j z hj hz => HF.out j z hj hz)).symm, HB.out⟩

noncomputable def capR (l : List Cd) : Bool × Bool := if handB l = true then (capB l, true) else (false, false)

end Go.Proofs.Ytcedbhgjabheaaa.cards

/- BlockedCards, FreeCards, IsFullCap: the model; IsFullCap: the program. -/
namespace Go.Proofs.Ytcedbhgjabheaaa.cards
open Go.RowKit
set_option linter.unusedVariables false

noncomputable def sel (l : List Cd) (b : Bool) (y : Cd) : Bool := !there l y && (decide (0 < thr l y l.length) == b)
theorem sel_true (l : List Cd) : sel l true = blk l := by funext y; unfold sel blk; cases there l y <;> cases decide (0 < thr l y l.length) <;> rfl
theorem sel_false (l : List Cd) : sel l false = fre l := by funext y; unfold sel fre; cases there l y <;> cases decide (0 < thr l y l.length) <;> rfl

set_option maxRecDepth 100000 in
set_option maxHeartbeats 4000000 in
theorem l3_cards (l : List Cd) (bl : Bool) (p : Option Addr) (n cp : Nat) (w : World) (hn : l.length = n) (hl : n ≤ 1000) (hr : Rd w p (flat l)) (hok : l.all Cd.ok = true) (hs : sorted l) :
    Calls Try.prog 53 #[.slice p n cp, .bool bl] w fun e w' => ∃ u, e = .returned u ∧ OwnI w' w.heap.size u (nums (sel l bl) 81) ∧ Below w.heap.size w w' := by
  have HN := Lib.hid hn
  have HR0 := Lib.hid hr
  have HS := Lib.hid hs
  have HK := Lib.hid hok
  clear hn hr hs hok
  go_enter Try.func53, Try.ntmps53
  go_wp2_with fail
  go_loopw [5, 6, 7] (fun o i _ wr => ∃ k : Nat, k ≤ 81 ∧ i = .int .i64 k ∧ Hid (OwnI wr w.heap.size o (nums (sel l bl) k)) ∧ Hid (Below w.heap.size w wr)) (fun _ i _ _ => 81 - (intOf i).toNat)
  case atStart => exact ⟨0, Nat.zero_le _, rfl, Lib.hid (OwnI.empty w w.heap.size (Nat.le_refl _)), Lib.hid (by repeat (first | with_reducible exact Below.refl _ _ | with_reducible exact HB.out | with_reducible apply Below.drew | with_reducible apply bdN | with_reducible refine Below.alloc ?_ (by first | exact Nat.le_refl _ | with_reducible exact HB.out.size | omega | (simp; done) | (simp; omega) | (have := HB.out.size; simp at *; omega)) _ | with_reducible refine Below.setCell ?_ (by first | exact Nat.le_refl _ | with_reducible exact HB.out.size | omega | (simp; done) | (simp; omega) | (have := HB.out.size; simp at *; omega)) _))⟩
  case round =>
    obtain ⟨k, hk, rfl, HO, HB⟩ := hrel
    by_cases hlt : k < 81
    · have HR := Lib.hid (HR0.out.below HB.out)
      have m0 : (0 : Int) ≤ (k : Int) := by omega
      have m1 : (k : Int) < 81 := by omega
      have HC := Lib.hid (cdAt_ok (n := (k : Int)) m0 (by omega))
      have HLn := Lib.hid (nums_len (sel l bl) k)
      go_wp2_with fail
      refine ((l2_at (k : Int) _ m0 (by omega))).mono ?_
      rintro e w2 ⟨rfl, b⟩
      have Sw2 := Lib.hid b.size
      have HB := Lib.hid (chain0 (w := w) (by repeat (first | with_reducible exact Below.refl _ _ | with_reducible exact HB.out | with_reducible apply Below.drew | with_reducible apply bdN | with_reducible refine Below.alloc ?_ (by first | exact Nat.le_refl _ | with_reducible exact HB.out.size | omega | (simp; done) | (simp; omega) | (have := HB.out.size; simp at *; omega)) _ | with_reducible refine Below.setCell ?_ (by first | exact Nat.le_refl _ | with_reducible exact HB.out.size | omega | (simp; done) | (simp; omega) | (have := HB.out.size; simp at *; omega)) _)) b)
      have HR := Lib.hid (Rd.below (by repeat (first | with_reducible exact HR.out | with_reducible apply Rd.drewN | with_reducible apply Rd.drew | with_reducible apply Rd.alloc)) b)
      have HO := Lib.hid (OwnI.below (by repeat (first | with_reducible exact HO.out | with_reducible apply OwnI.drewN | with_reducible apply OwnI.drew | with_reducible apply OwnI.alloc)) b)
      clear b
      have HP := fun w' (hr : Rd w' p (flat l)) => l2_has l (cdAt (k : Int)) p n cp w' HN.out hl hr HK.out HC.out HS.out
      have HT := fun w' (hr : Rd w' p (flat l)) => l2_through l (cdAt (k : Int)) p n cp w' HN.out hl hr HK.out HC.out HS.out
      cases ht : there l (cdAt (k : Int))
      · rw [ht] at HP
        obtain ⟨v, hv⟩ : ∃ v, thr l (cdAt (k : Int)) n = v := ⟨_, rfl⟩
        have hvd : sel l bl (cdAt (k : Int)) = (decide (0 < v) == bl) := by unfold sel; rw [ht, HN.out, hv]; rfl
        rw [hv] at HT
        have HP2 := Lib.hid HP
        have HT2 := Lib.hid HT
        clear HP HT ht hv
        go_wp2_with fail
        refine ((HP2.out _ (by repeat (first | with_reducible exact HR.out | with_reducible apply Rd.drewN | with_reducible apply Rd.drew | with_reducible apply Rd.alloc)))).mono ?_
        rintro e w3 ⟨rfl, b⟩
        have Sw3 := Lib.hid b.size
        have HB := Lib.hid (chain0 (w := w) (by repeat (first | with_reducible exact Below.refl _ _ | with_reducible exact HB.out | with_reducible apply Below.drew | with_reducible apply bdN | with_reducible refine Below.alloc ?_ (by first | exact Nat.le_refl _ | with_reducible exact HB.out.size | omega | (simp; done) | (simp; omega) | (have := HB.out.size; simp at *; omega)) _ | with_reducible refine Below.setCell ?_ (by first | exact Nat.le_refl _ | with_reducible exact HB.out.size | omega | (simp; done) | (simp; omega) | (have := HB.out.size; simp at *; omega)) _)) b)
        have HR := Lib.hid (Rd.below (by repeat (first | with_reducible exact HR.out | with_reducible apply Rd.drewN | with_reducible apply Rd.drew | with_reducible apply Rd.alloc)) b)
        have HO := Lib.hid (OwnI.below (by repeat (first | with_reducible exact HO.out | with_reducible apply OwnI.drewN | with_reducible apply OwnI.drew | with_reducible apply OwnI.alloc)) b)
        have K1 : Hid (Box _ (w2.heap.size) ((cdAt (k : Int)))) := Lib.hid (Box.below (by repeat (first | with_reducible exact K1.out | with_reducible apply Box.drewN | with_reducible apply Box.drew | (with_reducible refine Box.newAt ?_ ?_ <;> first | (simp; done) | rfl) | with_reducible apply Box.alloc)) b)
        try clear k1a k1b k1c k1d k1z
        have k1z := K1.out.lt
        obtain ⟨k1a, k1b, k1c, k1d⟩ := K1.out.cell
        clear b
        go_wp2_with fail
        refine ((HT2.out _ (by repeat (first | with_reducible exact HR.out | with_reducible apply Rd.drewN | with_reducible apply Rd.drew | with_reducible apply Rd.alloc)))).mono ?_
        rintro e w4 ⟨rfl, b⟩
        have Sw4 := Lib.hid b.size
        have HB := Lib.hid (chain0 (w := w) (by repeat (first | with_reducible exact Below.refl _ _ | with_reducible exact HB.out | with_reducible apply Below.drew | with_reducible apply bdN | with_reducible refine Below.alloc ?_ (by first | exact Nat.le_refl _ | with_reducible exact HB.out.size | omega | (simp; done) | (simp; omega) | (have := HB.out.size; simp at *; omega)) _ | with_reducible refine Below.setCell ?_ (by first | exact Nat.le_refl _ | with_reducible exact HB.out.size | omega | (simp; done) | (simp; omega) | (have := HB.out.size; simp at *; omega)) _)) b)
        have HR := Lib.hid (Rd.below (by repeat (first | with_reducible exact HR.out | with_reducible apply Rd.drewN | with_reducible apply Rd.drew | with_reducible apply Rd.alloc)) b)
        have HO := Lib.hid (OwnI.below (by repeat (first | with_reducible exact HO.out | with_reducible apply OwnI.drewN | with_reducible apply OwnI.drew | with_reducible apply OwnI.alloc)) b)
        have K1 : Hid (Box _ (w2.heap.size) ((cdAt (k : Int)))) := Lib.hid (Box.below (by repeat (first | with_reducible exact K1.out | with_reducible apply Box.drewN | with_reducible apply Box.drew | (with_reducible refine Box.newAt ?_ ?_ <;> first | (simp; done) | rfl) | with_reducible apply Box.alloc)) b)
        try clear k1a k1b k1c k1d k1z
        have k1z := K1.out.lt
        obtain ⟨k1a, k1b, k1c, k1d⟩ := K1.out.cell
        clear b
        by_cases hv : 0 < v
        · have hd : decide (0 < v) = true := decide_eq_true hv
          rw [hd] at hvd
          cases bl
          · have HE := Lib.hid (nums_no (show sel l false (cdAt (k : Int)) = false from hvd))
            clear hvd
            go_wp2_with fail
            go_roundw
            case rel => exact ⟨k + 1, by omega, by go_num, by rw [HE.out]; exact HO, HB⟩
            case measure => simp [intOf]; omega
          · have HE := Lib.hid (nums_yes (show sel l true (cdAt (k : Int)) = true from hvd))
            clear hvd
            go_wp2_with (at_builtin; refine append_int rfl (.tmp 27) (.tmp 29) rfl w.heap.size _ (nums (sel l true) k) (k : Int) _ _ rfl rfl rfl HO.out (by have := HLn.out; omega) HB.out.size ?_; intro v1 w5 hO1 hB1)
            rw [← HE.out] at hO1
            go_roundw
            case rel => exact ⟨k + 1, by omega, by go_num, hO1, HB.out.trans hB1⟩
            case measure => simp [intOf]; omega
        · have hd : decide (0 < v) = false := decide_eq_false hv
          rw [hd] at hvd
          cases bl
          · have HE := Lib.hid (nums_yes (show sel l false (cdAt (k : Int)) = true from hvd))
            clear hvd
            go_wp2_with (at_builtin; refine append_int rfl (.tmp 27) (.tmp 29) rfl w.heap.size _ (nums (sel l false) k) (k : Int) _ _ rfl rfl rfl HO.out (by have := HLn.out; omega) HB.out.size ?_; intro v1 w5 hO1 hB1)
            rw [← HE.out] at hO1
            go_roundw
            case rel => exact ⟨k + 1, by omega, by go_num, hO1, HB.out.trans hB1⟩
            case measure => simp [intOf]; omega
          · have HE := Lib.hid (nums_no (show sel l true (cdAt (k : Int)) = false from hvd))
            clear hvd
            go_wp2_with fail
            go_roundw
            case rel => exact ⟨k + 1, by omega, by go_num, by rw [HE.out]; exact HO, HB⟩
            case measure => simp [intOf]; omega
      · rw [ht] at HP
        have hvd : sel l bl (cdAt (k : Int)) = false := by unfold sel; rw [ht]; rfl
        have HE := Lib.hid (nums_no hvd)
        have HP2 := Lib.hid HP
        clear HP HT ht hvd
        go_wp2_with fail
        refine ((HP2.out _ (by repeat (first | with_reducible exact HR.out | with_reducible apply Rd.drewN | with_reducible apply Rd.drew | with_reducible apply Rd.alloc)))).mono ?_
        rintro e w3 ⟨rfl, b⟩
        have Sw3 := Lib.hid b.size
        have HB := Lib.hid (chain0 (w := w) (by repeat (first | with_reducible exact Below.refl _ _ | with_reducible exact HB.out | with_reducible apply Below.drew | with_reducible apply bdN | with_reducible refine Below.alloc ?_ (by first | exact Nat.le_refl _ | with_reducible exact HB.out.size | omega | (simp; done) | (simp; omega) | (have := HB.out.size; simp at *; omega)) _ | with_reducible refine Below.setCell ?_ (by first | exact Nat.le_refl _ | with_reducible exact HB.out.size | omega | (simp; done) | (simp; omega) | (have := HB.out.size; simp at *; omega)) _)) b)
        have HR := Lib.hid (Rd.below (by repeat (first | with_reducible exact HR.out | with_reducible apply Rd.drewN | with_reducible apply Rd.drew | with_reducible apply Rd.alloc)) b)
        have HO := Lib.hid (OwnI.below (by repeat (first | with_reducible exact HO.out | with_reducible apply OwnI.drewN | with_reducible apply OwnI.drew | with_reducible apply OwnI.alloc)) b)
        have K1 : Hid (Box _ (w2.heap.size) ((cdAt (k : Int)))) := Lib.hid (Box.below (by repeat (first | with_reducible exact K1.out | with_reducible apply Box.drewN | with_reducible apply Box.drew | (with_reducible refine Box.newAt ?_ ?_ <;> first | (simp; done) | rfl) | with_reducible apply Box.alloc)) b)
        try clear k1a k1b k1c k1d k1z
        have k1z := K1.out.lt
        obtain ⟨k1a, k1b, k1c, k1d⟩ := K1.out.cell
        clear b
        go_wp2_with fail
        go_roundw
        case rel => exact ⟨k + 1, by omega, by go_num, by rw [HE.out]; exact HO, HB⟩
        case measure => simp [intOf]; omega
    · obtain rfl : k = 81 := by omega
      go_wp2_with fail
      go_ret
      exact ⟨_, rfl, HO.out, HB.out⟩

noncomputable def fullR (l : List Cd) : Bool × Bool := if handB l = true then (capB l && decide ((nums (fre l) 81).length = 0), true) else (false, false)

end Go.Proofs.Ytcedbhgjabheaaa.cards

/- ChanceBlocked: the program's and the model's. -/
namespace Go.Proofs.Ytcedbhgjabheaaa.chance
open Go.RowKit
open cards reg
set_option linter.unusedVariables false

theorem sel_count (l : List Cd) : tot (fun d => nat (blk1 l d)) 1 (rst l 81) [] = (nums (sel l true) 81).length := by
  rw [tot_one _ (fun z => decide (0 < thr l z l.length)) [] (rst l 81) (fun z _ => rfl)]
  unfold rst nums
  rw [List.filter_map, List.length_map, List.length_map, List.filter_filter]
  congr 1
  refine List.filter_congr fun i _ => ?_
  show (decide (0 < thr l (cdAt (i : Int)) l.length) && !there l (cdAt (i : Int))) = sel l true (cdAt (i : Int))
  unfold sel
  cases there l (cdAt (i : Int)) <;> cases decide (0 < thr l (cdAt (i : Int)) l.length) <;> rfl
noncomputable def cbR (l : List Cd) : (Int × Int) × Bool := if handB l = true then (frac (nums (sel l true) 81).length (81 - l.length), true) else ((0, 0), false)
theorem cbR_mean {l : List Cd} (hh : handB l = true) : cbR l = mdR (tot (fun d => nat (blk1 l d)) 1 (rst l 81) []) (cho (rst l 81).length 1) := by
  have hHd := handB_true.1 hh
  have h := rst_81 hHd.2.2 hHd.2.1
  have h27 := hHd.1
  unfold cbR
  rw [if_pos hh, sel_count, cho_one, mdR_1 (by omega), show (rst l 81).length = 81 - l.length by omega]

set_option maxRecDepth 100000 in
set_option maxHeartbeats 2000000 in
theorem impl_cb (l : List Cd) (p : Option Addr) (n c : Nat) (w : World) (hn : l.length = n) (hl : n ≤ 1000000000) (hr : Rd w p (flat l)) (hcp : n ≤ c) :
    Calls Try.prog 23 #[.slice p n c] w fun e w' => e = .returned (.tuple #[.agg (fv (cbR l).1), .bool (cbR l).2]) ∧ Below w.heap.size w w' := by
  have K0 : Hid (VB (w.alloc (.cells (fv (0, 0)) 24)) w.heap.size 24 (fv (0, 0))) := Lib.hid (VB.newAt rfl rfl)
  have HN := Lib.hid hn
  have HR := Lib.hid hr
  clear hn hr
  cases hh : handB l
  · have HT : Hid (cbR l = ((0, 0), false)) := Lib.hid (by unfold cbR; rw [hh]; rfl)
    have HH := Lib.hid hh
    clear hh
    go_enter Try.func23, Try.ntmps23
    go_wp2_with fail
    refine ((is_hand l p n c _ HN.out hl (by repeat (first | with_reducible exact HR.out | with_reducible apply Rd.drewN | with_reducible apply Rd.drew | with_reducible apply Rd.alloc)))).mono ?_
    rintro e w1 ⟨rfl, b⟩
    have Sw1 := Lib.hid b.size
    have HB := Lib.hid (chain0 (w := w) (by repeat (first | with_reducible exact Below.refl _ _ | with_reducible exact HB.out | with_reducible apply Below.drew | with_reducible apply bdN | with_reducible refine Below.alloc ?_ (by first | exact Nat.le_refl _ | with_reducible exact HB.out.size | omega | (simp; done) | (simp; omega) | (have := HB.out.size; simp at *; omega)) _ | with_reducible refine Below.setCell ?_ (by first | exact Nat.le_refl _ | with_reducible exact HB.out.size | omega | (simp; done) | (simp; omega) | (have := HB.out.size; simp at *; omega)) _)) b)
    have HR := Lib.hid (Rd.below (by repeat (first | with_reducible exact HR.out | with_reducible apply Rd.drewN | with_reducible apply Rd.drew | with_reducible apply Rd.alloc)) b)
    have K0 := Lib.hid (VB.below (by repeat (first | with_reducible exact K0.out | with_reducible apply VB.drewN | with_reducible apply VB.drew | with_reducible apply VB.alloc)) b)
    clear b
    rw [HH.out]
    go_wp2_with ((with_reducible refine store_a2 rfl _ _ rfl K0.out ?_ (0, 0) ?_ ?_); rfl; rfl; intro w2 hM hG)
    try simp only [Exit.inBlock, Exit.then]
    refine bodyPost_ret (res_vb2 Try.results23 rfl hM Try.underlying24 (a2_info rfl)) rfl ?_
    exact ⟨by rw [HT.out]; rfl, HB.out.grown hG HB.out.size (fun k hk => by injection hk with hk; omega)⟩
  · have hHd := handB_true.1 hh
    have h27 : n ≤ 27 := by have := hHd.1; have := HN.out; omega
    have hRok := rst_ok l (Nat.le_refl 81)
    have hRl := rst_len l 81
    have hcR := cbR_mean hh
    have HRest := Lib.hid (fun w (hr : Rd w p (flat l)) => rest_of l p n c w HN.out (by omega) hr hHd.2.1 hHd.2.2)
    have HC := fun w q k cq hk hkc hr0 hr1 => chance_drawn 54 #[.slice p n c] #[] w (rst l 81) 1 (blk1 l) (fit_blocks w l (rst l 81) p n c HN.out (by omega) hr0 hHd.2.1 hHd.2.2 hRok) q k cq hk hkc (by omega) (by omega) hr1 (by rw [cho_one]; omega)
    obtain ⟨m, hm⟩ : ∃ m, (rst l 81).length = m := ⟨_, rfl⟩
    rw [hm] at hcR
    obtain ⟨r, hR⟩ : ∃ r, cbR l = r := ⟨_, rfl⟩
    have HC2 := fun w q cq (hkc : m ≤ cq) hr0 hr1 => HC w q m cq hm hkc hr0 hr1
    rw [← hcR, hR] at HC2
    rw [hR]
    have HC3 := Lib.hid HC2
    have HMl := Lib.hid hm
    have HH := Lib.hid hh
    clear hh hR hcR HC HC2 hm hRl hRok hHd
    generalize rst l 81 = L at *
    obtain ⟨fr, ok⟩ := r
    dsimp only at HC3 ⊢
    go_enter Try.func23, Try.ntmps23
    go_wp2_with fail
    refine ((is_hand l p n c _ HN.out hl (by repeat (first | with_reducible exact HR.out | with_reducible apply Rd.drewN | with_reducible apply Rd.drew | with_reducible apply Rd.alloc)))).mono ?_
    rintro e w1 ⟨rfl, b⟩
    have Sw1 := Lib.hid b.size
    have HB := Lib.hid (chain0 (w := w) (by repeat (first | with_reducible exact Below.refl _ _ | with_reducible exact HB.out | with_reducible apply Below.drew | with_reducible apply bdN | with_reducible refine Below.alloc ?_ (by first | exact Nat.le_refl _ | with_reducible exact HB.out.size | omega | (simp; done) | (simp; omega) | (have := HB.out.size; simp at *; omega)) _ | with_reducible refine Below.setCell ?_ (by first | exact Nat.le_refl _ | with_reducible exact HB.out.size | omega | (simp; done) | (simp; omega) | (have := HB.out.size; simp at *; omega)) _)) b)
    have HR := Lib.hid (Rd.below (by repeat (first | with_reducible exact HR.out | with_reducible apply Rd.drewN | with_reducible apply Rd.drew | with_reducible apply Rd.alloc)) b)
    have K0 := Lib.hid (VB.below (by repeat (first | with_reducible exact K0.out | with_reducible apply VB.drewN | with_reducible apply VB.drew | with_reducible apply VB.alloc)) b)
    clear b
    rw [HH.out]
    go_wp2_with fail
    refine ((HRest.out _ (by repeat (first | with_reducible exact HR.out | with_reducible apply Rd.drewN | with_reducible apply Rd.drew | with_reducible apply Rd.alloc)))).mono ?_
    rintro e w2 ⟨u, rfl, hu, b⟩
    have Sw2 := Lib.hid b.size
    have HB := Lib.hid (chain0 (w := w) (by repeat (first | with_reducible exact Below.refl _ _ | with_reducible exact HB.out | with_reducible apply Below.drew | with_reducible apply bdN | with_reducible refine Below.alloc ?_ (by first | exact Nat.le_refl _ | with_reducible exact HB.out.size | omega | (simp; done) | (simp; omega) | (have := HB.out.size; simp at *; omega)) _ | with_reducible refine Below.setCell ?_ (by first | exact Nat.le_refl _ | with_reducible exact HB.out.size | omega | (simp; done) | (simp; omega) | (have := HB.out.size; simp at *; omega)) _)) b)
    have HR := Lib.hid (Rd.below (by repeat (first | with_reducible exact HR.out | with_reducible apply Rd.drewN | with_reducible apply Rd.drew | with_reducible apply Rd.alloc)) b)
    have K0 := Lib.hid (VB.below (by repeat (first | with_reducible exact K0.out | with_reducible apply VB.drewN | with_reducible apply VB.drew | with_reducible apply VB.alloc)) b)
    clear b
    obtain ⟨pu, cu, rfl, hcu, hru, _⟩ := hu.form
    rw [HMl.out] at hcu ⊢
    have HU := Lib.hid hru
    clear hu hru
    go_wp2_with fail
    refine ((HC3.out _ pu cu hcu (by repeat (first | with_reducible exact HR.out | with_reducible apply Rd.drewN | with_reducible apply Rd.drew | with_reducible apply Rd.alloc)) HU.out)).mono ?_
    rintro e w3 ⟨rfl, b⟩
    have Sw3 := Lib.hid b.size
    have HB := Lib.hid (chain0 (w := w) (by repeat (first | with_reducible exact Below.refl _ _ | with_reducible exact HB.out | with_reducible apply Below.drew | with_reducible apply bdN | with_reducible refine Below.alloc ?_ (by first | exact Nat.le_refl _ | with_reducible exact HB.out.size | omega | (simp; done) | (simp; omega) | (have := HB.out.size; simp at *; omega)) _ | with_reducible refine Below.setCell ?_ (by first | exact Nat.le_refl _ | with_reducible exact HB.out.size | omega | (simp; done) | (simp; omega) | (have := HB.out.size; simp at *; omega)) _)) b)
    have HR := Lib.hid (Rd.below (by repeat (first | with_reducible exact HR.out | with_reducible apply Rd.drewN | with_reducible apply Rd.drew | with_reducible apply Rd.alloc)) b)
    have K0 := Lib.hid (VB.below (by repeat (first | with_reducible exact K0.out | with_reducible apply VB.drewN | with_reducible apply VB.drew | with_reducible apply VB.alloc)) b)
    clear b
    go_wp2_with ((with_reducible refine store_a2 rfl _ _ rfl K0.out ?_ fr ?_ ?_); rfl; rfl; intro w4 hM hG)
    try simp only [Exit.inBlock, Exit.then]
    refine bodyPost_ret (res_vb2 Try.results23 rfl hM Try.underlying24 (a2_info rfl)) rfl ?_
    exact ⟨rfl, HB.out.grown hG HB.out.size (fun k hk => by injection hk with hk; omega)⟩

set_option maxRecDepth 100000 in
set_option maxHeartbeats 2000000 in
theorem spec_cb (l : List Cd) (p : Option Addr) (n c : Nat) (w : World) (hn : l.length = n) (hl : n ≤ 1000000000) (hr : Rd w p (flat l)) (hcp : n ≤ c) :
    Calls Try.prog 22 #[.slice p n c] w fun e w' => e = .returned (.tuple #[.agg (fv (cbR l).1), .bool (cbR l).2]) ∧ Below w.heap.size w w' := by
  have K0 : Hid (VB (w.alloc (.cells (fv (0, 0)) 24)) w.heap.size 24 (fv (0, 0))) := Lib.hid (VB.newAt rfl rfl)
  have HN := Lib.hid hn
  have HR := Lib.hid hr
  clear hn hr
  cases hh : handB l
  · have HT : Hid (cbR l = ((0, 0), false)) := Lib.hid (by unfold cbR; rw [hh]; rfl)
    have HH := Lib.hid hh
    clear hh
    go_enter Try.func22, Try.ntmps22
    go_wp2_with fail
    refine ((l2_hand l p n c _ HN.out hl (by repeat (first | with_reducible exact HR.out | with_reducible apply Rd.drewN | with_reducible apply Rd.drew | with_reducible apply Rd.alloc)))).mono ?_
    rintro e w1 ⟨rfl, b⟩
    have Sw1 := Lib.hid b.size
    have HB := Lib.hid (chain0 (w := w) (by repeat (first | with_reducible exact Below.refl _ _ | with_reducible exact HB.out | with_reducible apply Below.drew | with_reducible apply bdN | with_reducible refine Below.alloc ?_ (by first | exact Nat.le_refl _ | with_reducible exact HB.out.size | omega | (simp; done) | (simp; omega) | (have := HB.out.size; simp at *; omega)) _ | with_reducible refine Below.setCell ?_ (by first | exact Nat.le_refl _ | with_reducible exact HB.out.size | omega | (simp; done) | (simp; omega) | (have := HB.out.size; simp at *; omega)) _)) b)
    have HR := Lib.hid (Rd.below (by repeat (first | with_reducible exact HR.out | with_reducible apply Rd.drewN | with_reducible apply Rd.drew | with_reducible apply Rd.alloc)) b)
    have K0 := Lib.hid (VB.below (by repeat (first | with_reducible exact K0.out | with_reducible apply VB.drewN | with_reducible apply VB.drew | with_reducible apply VB.alloc)) b)
    clear b
    rw [HH.out]
    go_wp2_with ((with_reducible refine store_a2 rfl _ _ rfl K0.out ?_ (0, 0) ?_ ?_); rfl; rfl; intro w2 hM hG)
    try simp only [Exit.inBlock, Exit.then]
    refine bodyPost_ret (res_vb2 Try.results22 rfl hM Try.underlying24 (a2_info rfl)) rfl ?_
    exact ⟨by rw [HT.out]; rfl, HB.out.grown hG HB.out.size (fun k hk => by injection hk with hk; omega)⟩
  · have hHd := handB_true.1 hh
    have h27 : n ≤ 27 := by have := hHd.1; have := HN.out; omega
    have hT : cbR l = (frac (nums (sel l true) 81).length (81 - n), true) := by unfold cbR; rw [if_pos hh, HN.out]
    have hlen := nums_len (sel l true) 81
    have HL := Lib.hid (fun w (hr : Rd w p (flat l)) => l3_cards l true p n c w HN.out (by omega) hr hHd.2.1 hHd.2.2)
    have HCu := fun w => l9_cut (nums (sel l true) 81).length (81 - n) w (by omega) (by omega) (by omega)
    rw [show ((81 - n : Nat) : Int) = 81 - (n : Int) by omega] at HCu
    have HH := Lib.hid hh
    rw [hT]
    obtain ⟨fr, hf⟩ : ∃ fr, frac (nums (sel l true) 81).length (81 - n) = fr := ⟨_, rfl⟩
    rw [hf] at HCu ⊢
    have HCu := Lib.hid HCu
    generalize nums (sel l true) 81 = N at *
    have h0 : (n : Int) ≤ 27 := by omega
    clear hh hT hlen hf hHd
    dsimp only
    go_enter Try.func22, Try.ntmps22
    go_wp2_with fail
    refine ((l2_hand l p n c _ HN.out hl (by repeat (first | with_reducible exact HR.out | with_reducible apply Rd.drewN | with_reducible apply Rd.drew | with_reducible apply Rd.alloc)))).mono ?_
    rintro e w1 ⟨rfl, b⟩
    have Sw1 := Lib.hid b.size
    have HB := Lib.hid (chain0 (w := w) (by repeat (first | with_reducible exact Below.refl _ _ | with_reducible exact HB.out | with_reducible apply Below.drew | with_reducible apply bdN | with_reducible refine Below.alloc ?_ (by first | exact Nat.le_refl _ | with_reducible exact HB.out.size | omega | (simp; done) | (simp; omega) | (have := HB.out.size; simp at *; omega)) _ | with_reducible refine Below.setCell ?_ (by first | exact Nat.le_refl _ | with_reducible exact HB.out.size | omega | (simp; done) | (simp; omega) | (have := HB.out.size; simp at *; omega)) _)) b)
    have HR := Lib.hid (Rd.below (by repeat (first | with_reducible exact HR.out | with_reducible apply Rd.drewN | with_reducible apply Rd.drew | with_reducible apply Rd.alloc)) b)
    have K0 := Lib.hid (VB.below (by repeat (first | with_reducible exact K0.out | with_reducible apply VB.drewN | with_reducible apply VB.drew | with_reducible apply VB.alloc)) b)
    clear b
    rw [HH.out]
    go_wp2_with fail
    refine ((HL.out _ (by repeat (first | with_reducible exact HR.out | with_reducible apply Rd.drewN | with_reducible apply Rd.drew | with_reducible apply Rd.alloc)))).mono ?_
    rintro e w2 ⟨u, rfl, hu, b⟩
    have Sw2 := Lib.hid b.size
    have HB := Lib.hid (chain0 (w := w) (by repeat (first | with_reducible exact Below.refl _ _ | with_reducible exact HB.out | with_reducible apply Below.drew | with_reducible apply bdN | with_reducible refine Below.alloc ?_ (by first | exact Nat.le_refl _ | with_reducible exact HB.out.size | omega | (simp; done) | (simp; omega) | (have := HB.out.size; simp at *; omega)) _ | with_reducible refine Below.setCell ?_ (by first | exact Nat.le_refl _ | with_reducible exact HB.out.size | omega | (simp; done) | (simp; omega) | (have := HB.out.size; simp at *; omega)) _)) b)
    have HR := Lib.hid (Rd.below (by repeat (first | with_reducible exact HR.out | with_reducible apply Rd.drewN | with_reducible apply Rd.drew | with_reducible apply Rd.alloc)) b)
    have K0 := Lib.hid (VB.below (by repeat (first | with_reducible exact K0.out | with_reducible apply VB.drewN | with_reducible apply VB.drew | with_reducible apply VB.alloc)) b)
    clear b
    obtain ⟨pu, cu, rfl, _, _, _⟩ := hu.form
    clear hu
    go_wp2_with fail
    refine ((HCu.out _)).mono ?_
    rintro e w3 ⟨rfl, b⟩
    have Sw3 := Lib.hid b.size
    have HB := Lib.hid (chain0 (w := w) (by repeat (first | with_reducible exact Below.refl _ _ | with_reducible exact HB.out | with_reducible apply Below.drew | with_reducible apply bdN | with_reducible refine Below.alloc ?_ (by first | exact Nat.le_refl _ | with_reducible exact HB.out.size | omega | (simp; done) | (simp; omega) | (have := HB.out.size; simp at *; omega)) _ | with_reducible refine Below.setCell ?_ (by first | exact Nat.le_refl _ | with_reducible exact HB.out.size | omega | (simp; done) | (simp; omega) | (have := HB.out.size; simp at *; omega)) _)) b)
    have HR := Lib.hid (Rd.below (by repeat (first | with_reducible exact HR.out | with_reducible apply Rd.drewN | with_reducible apply Rd.drew | with_reducible apply Rd.alloc)) b)
    have K0 := Lib.hid (VB.below (by repeat (first | with_reducible exact K0.out | with_reducible apply VB.drewN | with_reducible apply VB.drew | with_reducible apply VB.alloc)) b)
    clear b
    go_wp2_with ((with_reducible refine store_a2 rfl _ _ rfl K0.out ?_ fr ?_ ?_); rfl; rfl; intro w4 hM hG)
    try simp only [Exit.inBlock, Exit.then]
    refine bodyPost_ret (res_vb2 Try.results22 rfl hM Try.underlying24 (a2_info rfl)) rfl ?_
    exact ⟨rfl, HB.out.grown hG HB.out.size (fun k hk => by injection hk with hk; omega)⟩
end Go.Proofs.Ytcedbhgjabheaaa.chance

