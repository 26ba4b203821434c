/- A map from cards to whatever values, made by the call; and one to lists of pairs, each in a row of its own. -/
import Derived.Test.YtjmlefcmhjodeaaXq
import Derived.Maps.Range
namespace Go.Proofs.Ytjmlefcmhjodeaa.others
open Go.RowKit
open Go.Maps (Keyed)
open Go.ChangeMaps Go.MapKept
open Go.WideElems (Fit rd rg pl rd_val entry_then_store)
open cards reg
set_option linter.unusedVariables false

set_option maxRecDepth 100000 in
theorem klaw : Go.WideMaps.KeyLaw Try.prog 25 := deep_law_laid laidOutM (m := 2) (by omega) rowM (by kernel_rfl) wideM
abbrev nilv : Value := .slice none 0 0
/-- An element reads as itself. -/
def Rv (v : Value) : Option (DataW Value × List MemPlace) := some (.held v, [])
/-- Block g is a map of at most m entries; V tells the value at each card. -/
def MapV (w : World) (g m : Nat) (V : Cd → Value) : Prop := ∃ D : DataW Value, w.ownsMap Try.prog 25 Rv g m D ∧ (∀ x : Cd, x.ok = true → D.atKey (kl x) (.held nilv) = .held (V x)) ∧ ∀ k, Maps.has D k = true → ∃ x : Cd, x.ok = true ∧ k = kl x
theorem MapV.made (w : World) : MapV (w.alloc (.map #[] 0)) w.heap.size 0 (fun _ => nilv) := ⟨_, World.ownsMap_made w Try.prog _ _, fun x _ => rfl, fun k h => by simp [Maps.has_eq] at h⟩
theorem MapV.lt {w : World} {g m : Nat} {V : Cd → Value} (h : MapV w g m V) : g < w.heap.size := by obtain ⟨D, h1, _⟩ := h; exact h1.lt
theorem MapV.kept {w w' : World} {g m : Nat} {V : Cd → Value} {row : Option Nat} (h : MapV w g m V) (hg : w.grownBy w' row) (hne : some g ≠ row) : MapV w' g m V := by
  obtain ⟨D, h1, h2⟩ := h
  exact ⟨D, h1.kept hg hne, h2⟩
theorem MapV.mono {w : World} {g m m' : Nat} {V : Cd → Value} (h : MapV w g m V) (hm : m ≤ m') : MapV w g m' V := by
  obtain ⟨D, h1, h2⟩ := h
  exact ⟨D, h1.mono hm, h2⟩
theorem MapV.below {w w1 : World} {g m : Nat} {V : Cd → Value} (h : MapV w g m V) (hb : Below w.heap.size w w1) : MapV w1 g m V :=
  h.kept (row := none) ⟨hb.os, hb.tape, hb.output, hb.size, fun j hj _ => hb.block j hj⟩ (by simp)
theorem MapV.alloc {w : World} {g m : Nat} {V : Cd → Value} (h : MapV w g m V) (o : Obj) : MapV (w.alloc o) g m V := h.kept (World.grownBy_alloc w o none) (by simp)
theorem MapV.drew {w : World} {g m : Nat} {V : Cd → Value} (h : MapV w g m V) : MapV w.drew g m V := h
theorem MapV.drewN {w : World} {g m : Nat} {V : Cd → Value} (h : MapV w g m V) (n : Nat) : MapV (w.drewN n) g m V := h
theorem zeroN (w : World) : (zeroValue 78).run Try.prog w = .ok nilv w := by kernel_rfl
/-- m[c] -/
theorem mapV_look {w : World} {g n : Nat} {V : Cd → Value} (hM : MapV w g n V) {c : Cd} (hc : c.ok = true) : (Instr.lookup 76 (.map (some g)) c.val false).run Try.prog w = .ok (V c) w := by
  obtain ⟨D, h1, h2, _⟩ := hM
  obtain ⟨v, ps, hrun, hv⟩ := h1.lookup mlaw Try.underlying76 (zeroN w) (zd := .held nilv) (zp := []) rfl (mkey hc)
  rw [h2 c hc] at hv
  unfold Rv at hv
  simp at hv
  rw [← hv.1]; exact hrun
def putV (V : Cd → Value) (c : Cd) (v : Value) : Cd → Value := fun y => if same y c = true then v else V y
set_option maxRecDepth 100000 in
/-- m[c] op= ..: the entry, then the store. -/
theorem mapV_entry {w : World} {g n : Nat} {V : Cd → Value} (hM : MapV w g n V) (hn : n < maxLen) {c : Cd} (hc : c.ok = true) :
    ∃ (st : Nat) (w1 : World), (Instr.mapEntry 76 (.map (some g)) c.val).run Try.prog w = .ok (.tuple #[V c, goInt st]) w1 ∧ w.grownBy w1 (some g) ∧ w1.heap.size = w.heap.size ∧
      ∀ (w2 : World) (val : Value), w2.heap[g]? = w1.heap[g]? → ∃ w3, (Instr.entryStore 76 (.map (some g)) (goInt st) val).run Try.prog w2 = .ok () w3 ∧ MapV w3 g (n + 1) (putV V c val) ∧ w2.grownBy w3 (some g) := by
  obtain ⟨D, h1, h2, h3⟩ := hM
  obtain ⟨es, clock, hb, F, hs, rfl⟩ := h1
  obtain ⟨v0, st, es1, clock1, hrun, hv0, hst⟩ := entry_then_store klaw Try.underlying76 zeroN hb F (mkey hc)
  have hV : v0 = V c := by
    have hpw := ((stamped_iff es clock).1 F.stamped).2.2
    rcases Maps.fit_look false mlaw Try.underlying76 (zeroN w) hb F (mkey hc) with ⟨_, hno, hat⟩ | ⟨e0, y, he0, hk0, _, hRv, hat, _⟩
    · rcases hv0 with ⟨e1, he1, hk1, _⟩ | ⟨_, hz⟩
      · exact absurd hk1 (hno e1 he1)
      · have := h2 c hc
        rw [hat] at this
        injection this with this
        rw [hz, this]
    · rcases hv0 with ⟨e1, he1, hk1, hz⟩ | ⟨hno, _⟩
      · have e := entry_eq_of_key hpw he0 he1 (hk0.trans hk1.symm)
        have h4 := h2 c hc
        rw [hat] at h4
        unfold Rv at hRv
        injection hRv with hRv
        rw [← hRv] at h4
        injection h4 with h4
        rw [hz, ← e, h4]
      · exact absurd hk0 (hno e0 he0)
  subst hV
  refine ⟨st, _, hrun, ⟨rfl, rfl, rfl, by simp [setBlock], fun i _ hi => heap_setBlock_other hb _ (fun e => hi (by rw [e]))⟩, by simp [setBlock], fun w2 val hw2 => ?_⟩
  have hw2' : w2.heap[g]? = some (.map es1 clock1) := hw2.trans (heap_setBlock_same hb _)
  obtain ⟨es', clock', hr2, hu⟩ := hst w2 val hw2'
  obtain ⟨es2, clock2, hu2, F', hput, _⟩ := Maps.fit_store (R' := Rv) mlaw Try.underlying76 hb F (Nat.lt_of_le_of_lt hs hn) (fun _ _ _ _ hz => hz) (mkey hc) (val := val) (yv := (.held val, [])) rfl
  have heq : (Obj.map es' clock') = .map es2 clock2 := by
    rw [hu] at hu2
    injection hu2 with _ hw
    have k1 := heap_setBlock_same hb (.map es' clock')
    have k2 := heap_setBlock_same hb (.map es2 clock2)
    rw [hw, k2] at k1
    injection k1 with k1
    exact k1.symm
  injection heq with e1 e2
  subst e1; subst e2
  have hmap : w2.heap[g]? = some (.map es1 clock1) := hw2'
  have hT : Maps.IsMap (DataW.map ((es.toList.map (rg Try.prog 25 Rv)).foldr DataW.insert [])) := by exact ⟨_, rfl⟩
  refine ⟨_, hr2, ⟨_, ⟨es', clock', heap_setBlock_same hmap _, F', ?_, rfl⟩, ?_, ?_⟩, ⟨rfl, rfl, rfl, by simp [setBlock], fun i _ hi => heap_setBlock_other hmap _ (fun e => hi (by rw [e]))⟩⟩
  · have e1 : es'.size = ((es'.toList.map (rg Try.prog 25 Rv)).foldr DataW.insert []).length := by rw [length_sorted]; simp
    rw [e1, hput]
    unfold putKey
    rw [length_insert]
    have e2 := List.length_filter_le (notKey (kl c)) ((es.toList.map (rg Try.prog 25 Rv)).foldr DataW.insert [])
    rw [length_sorted] at e2
    simp at e2
    omega
  · intro y hy
    rw [hput, ← DataW.put_eq]
    unfold putV
    cases hs : same y c
    · have hne : kl y ≠ kl c := fun e => by
        have := kl_inj hy hc e
        subst this
        simp [same] at hs
      rw [Maps.atKey_put_other hne, h2 y hy]; simp
    · have := same_iff.1 hs
      subst this
      rw [Maps.atKey_put_same hT (kl_key hy)]; simp
  · intro k hk
    rw [hput, ← DataW.put_eq] at hk
    by_cases e : k = kl c
    · exact ⟨c, hc, e⟩
    · rw [Maps.has_put_other e] at hk
      exact h3 k hk
end Go.Proofs.Ytjmlefcmhjodeaa.others
