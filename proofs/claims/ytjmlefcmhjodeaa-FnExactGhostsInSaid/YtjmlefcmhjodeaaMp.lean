/- Maps from cards to truth values that a call makes. -/
import Derived.Test.YtjmlefcmhjodeaaHd
import Derived.Maps.OwnSet
import Derived.Maps.OwnOps
import Derived.DeepKeys4
namespace Go.Proofs.Ytjmlefcmhjodeaa.cards
open Go.RowKit
open Go.Maps (Keyed)
set_option linter.unusedVariables false

theorem laidOutM : laidOutB Try.prog = true := by kernel_rfl
theorem rowM : 25 < (Try.prog).types.size := of_decide_eq_true (by kernel_rfl)
theorem wideM : (match (Try.prog).underlying 25 with | some (.array _ _) | some (.struct _) => true | _ => false) = true := by rw [Try.underlying25]
set_option maxRecDepth 100000 in
theorem mlaw : Keyed Try.prog 25 := Keyed.of_law (deep_law_laid laidOutM (m := 2) (by omega) rowM (by kernel_rfl) wideM)
theorem key_litsN (d : Nat) (x : Cd) (h : x.ok = true) : (Try.prog).keyLits (d + 2) 25 x.val.cells.toList = some (lits x) := by
  obtain ⟨⟨a1, a2⟩, ⟨b1, b2⟩, ⟨c1, c2⟩, d1, d2⟩ := Cd.bd h
  have w1 := wf_small a1 (by omega)
  have w2 := wf_small b1 (by omega)
  have w3 := wf_small c1 (by omega)
  have w4 := wf_small d1 (by omega)
  have ce : (Try.prog).cellsOf 3 = 1 := by kernel_rfl
  have ct : (Try.prog).cellsOf 25 = 4 := by kernel_rfl
  simp [Program.keyLits, Try.underlying25, Try.underlying3, Value.cells, ce, ct, w1, w2, w3, w4, show List.range 4 = [0, 1, 2, 3] from rfl, lits]
/-- What a card reads as, as a key. -/
def kl (x : Cd) : Lit := .string (keyBytes (lits x))
theorem mkey {x : Cd} (h : x.ok = true) : keyOf Try.prog 25 x.val = some (kl x) := by
  obtain ⟨d, hd⟩ : ∃ d, (Try.prog).types.size + 1 = d + 2 := ⟨(Try.prog).types.size - 1, by have := rowM; omega⟩
  have ht : (Try.prog).keyType 25 = true := by kernel_rfl
  have ct : (Try.prog).cellsOf 25 = 4 := by kernel_rfl
  have hf : x.val.formed Try.prog 25 = true := by simp [Value.formed, Try.underlying25, ct]
  unfold keyOf
  rw [Try.underlying25]
  simp only [ht, hf, Bool.and_self, if_true, hd, key_litsN d x h]
  rfl
theorem kl_key {x : Cd} (h : x.ok = true) : WideAt.IsKeyLit (kl x) := mlaw.key (mkey h)
theorem kl_inj {x y : Cd} (hx : x.ok = true) (hy : y.ok = true) (h : kl x = kl y) : x = y := by
  have h1 := mkey hx
  have h2 := mkey hy
  rw [← h] at h2
  have e := mlaw.inj h1 h2
  obtain ⟨a, b, c, d⟩ := x
  obtain ⟨a', b', c', d'⟩ := y
  simp at e
  obtain ⟨rfl, rfl, rfl, rfl⟩ := e
  rfl

/-- Block g is a map of at most m entries; S tells the cards at which it holds true. -/
def MapB (w : World) (g m : Nat) (S : Cd → Bool) : Prop := ∃ D : DataW Unit, w.ownsMap Try.prog 25 (plainElem Try.prog 4) g m D ∧ ∀ x : Cd, x.ok = true → D.atKey (kl x) (.lit (.bool false)) = .lit (.bool (S x))
theorem MapB.made (w : World) : MapB (w.alloc (.map #[] 0)) w.heap.size 0 (fun _ => false) := ⟨_, World.ownsMap_made w Try.prog _ _, fun x _ => rfl⟩
theorem MapB.lt {w : World} {g m : Nat} {S : Cd → Bool} (h : MapB w g m S) : g < w.heap.size := by obtain ⟨D, h1, _⟩ := h; exact h1.lt
theorem MapB.kept {w w' : World} {g m : Nat} {S : Cd → Bool} {row : Option Nat} (h : MapB w g m S) (hg : w.grownBy w' row) (hne : some g ≠ row) : MapB w' g m S := by
  obtain ⟨D, h1, h2⟩ := h
  exact ⟨D, h1.kept hg hne, h2⟩
theorem MapB.below {w w1 : World} {g m : Nat} {S : Cd → Bool} (h : MapB w g m S) (hb : Below w.heap.size w w1) : MapB w1 g m S :=
  h.kept (row := none) ⟨hb.os, hb.tape, hb.output, hb.size, fun j hj _ => hb.block j hj⟩ (by simp)
theorem MapB.alloc {w : World} {g m : Nat} {S : Cd → Bool} (h : MapB w g m S) (o : Obj) : MapB (w.alloc o) g m S := h.kept (World.grownBy_alloc w o none) (by simp)
theorem MapB.drew {w : World} {g m : Nat} {S : Cd → Bool} (h : MapB w g m S) : MapB w.drew g m S := h
theorem MapB.drewN {w : World} {g m : Nat} {S : Cd → Bool} (h : MapB w g m S) (n : Nat) : MapB (w.drewN n) g m S := h
theorem MapB.mono {w : World} {g m m' : Nat} {S : Cd → Bool} (h : MapB w g m S) (hm : m ≤ m') : MapB w g m' S := by
  obtain ⟨D, h1, h2⟩ := h
  exact ⟨D, h1.mono hm, h2⟩
theorem MapB.ext {w : World} {g m : Nat} {S S' : Cd → Bool} (h : MapB w g m S) (hs : ∀ x, x.ok = true → S x = S' x) : MapB w g m S' := by
  obtain ⟨D, h1, h2⟩ := h
  exact ⟨D, h1, fun x hx => by rw [h2 x hx, hs x hx]⟩
theorem plainElem_bool_inv {H : Type} {P : Program} {e : TypeId} (he : P.underlying e = some .bool) {v : Value} {z : DataW H × List MemPlace} (h : plainElem P e v = some z) : ∃ b, v = .bool b ∧ z = (.lit (.bool b), []) := by
  unfold plainElem at h
  rw [he] at h
  cases v <;> simp at h
  exact ⟨_, rfl, h.symm⟩
theorem zeroB (w : World) : (zeroValue 4).run Try.prog w = .ok (.bool false) w := by kernel_rfl
end Go.Proofs.Ytjmlefcmhjodeaa.cards
