/- Maps: the round of a card: the list of its images. -/
import Derived.Test.YtfbcjcfhdclklaaMt
import Derived.Test.YtfbcjcfhdclklaaAp
namespace Go.Proofs.Ytfbcjcfhdclklaa.maps
open Go.RowKit
open cards reg
set_option linter.unusedVariables false

def orbT (m : Mp) (c : Cd) : Nat → List Cd
  | 0 => []
  | k + 1 => orbT m c k ++ [img (pow m k) c]
theorem orbT_len (m : Mp) (c : Cd) (k : Nat) : (orbT m c k).length = k := by
  induction k with
  | zero => rfl
  | succ k ih => show (orbT m c k ++ [_]).length = _; rw [List.length_append, ih]; rfl
theorem orbT_one {m : Mp} {c : Cd} (hc : c.ok = true) : orbT m c 1 = [c] := by show [] ++ [img idM c] = _; rw [img_id hc]; rfl
theorem orbT_ok {m : Mp} {c : Cd} (hm : m.ok = true) (k : Nat) : ∀ x ∈ orbT m c k, x.ok = true := by
  induction k with
  | zero => intro x h; cases h
  | succ k ih =>
    intro x h
    rcases List.mem_append.1 h with h | h
    · exact ih x h
    · obtain rfl : x = img (pow m k) c := by simpa using h
      exact img_ok (pow_ok hm k) c
theorem orb_at {m : Mp} {c : Cd} (hm : m.ok = true) (hc : c.ok = true) {k : Nat} (h1 : 1 ≤ k) (h2 : k ≤ orbN m c) : same (img (pow m k) c) c = decide (k = orbN m c) := by
  obtain ⟨a1, a2, a3, a4⟩ := orbN_spec hm hc
  rw [Bool.eq_iff_iff, same_iff, decide_eq_true_iff]
  constructor
  · intro h
    rcases Nat.lt_or_ge k (orbN m c) with h3 | h3
    · exact absurd h (a4 k h1 h3)
    · omega
  · rintro rfl; exact a3
theorem orb_next (m : Mp) (c : Cd) (k : Nat) : img (pow m (k + 1)) c = img m (img (pow m k) c) := img_pow m k c
theorem orb_zero {m : Mp} {c : Cd} (hc : c.ok = true) : img (pow m 0) c = c := img_id hc
/-- The numbers of the round. -/
def orbI (m : Mp) (c : Cd) (k : Nat) : List Int := (orbT m c k).map num
theorem orbI_len (m : Mp) (c : Cd) (k : Nat) : (orbI m c k).length = k := by unfold orbI; rw [List.length_map, orbT_len]
theorem orbI_succ (m : Mp) (c : Cd) (k : Nat) : orbI m c (k + 1) = orbI m c k ++ [num (img (pow m k) c)] := by unfold orbI; show (orbT m c k ++ [_]).map num = _; rw [List.map_append]; rfl
theorem Own.one (w : World) (B : Nat) (hB : B ≤ w.heap.size) (c : Cd) : Own (w.alloc c.obj) B (.slice (some ⟨w.heap.size, 0, none⟩) 1 1) [c] :=
  ⟨rfl, .inr ⟨w.heap.size, 1, _, rfl, hB, heap_alloc_new w _, Nat.le_refl _, by simp [maxLen], rfl, rfl⟩⟩
theorem OwnI.one (w : World) (B : Nat) (hB : B ≤ w.heap.size) (q : Int) : OwnI (w.alloc (.cells #[.int .i64 q] 3)) B (.slice (some ⟨w.heap.size, 0, none⟩) 1 1) [q] :=
  ⟨rfl, .inr ⟨w.heap.size, 1, _, rfl, hB, heap_alloc_new w _, Nat.le_refl _, by simp [maxLen], rfl, rfl⟩⟩
/-- A store into a block that the slice does not own. -/
theorem Own.far {w : World} {B : Nat} {v : Value} {l : List Cd} (h : Own w B v l) {p : Addr} (hp : ∀ g, v.ownBlock = some g → g ≠ p.block) (u : Value) : Own (w.setCell p u) B v l :=
  World.ownsRow.kept (row := some p.block) h ⟨rfl, rfl, rfl, by simp [World.setCell], fun k hk hne => Below.heap_setCell _ _ _ _ (fun e => hne (by rw [e]))⟩ (by
    cases hv : v.ownBlock with
    | none => simp
    | some g => exact .inr (fun e => hp g hv (by injection e)))
theorem OwnI.far {w : World} {B : Nat} {v : Value} {l : List Int} (h : OwnI w B v l) {p : Addr} (hp : ∀ g, v.ownBlock = some g → g ≠ p.block) (u : Value) : OwnI (w.setCell p u) B v l :=
  World.ownsRow.kept (row := some p.block) h ⟨rfl, rfl, rfl, by simp [World.setCell], fun k hk hne => Below.heap_setCell _ _ _ _ (fun e => hne (by rw [e]))⟩ (by
    cases hv : v.ownBlock with
    | none => simp
    | some g => exact .inr (fun e => hp g hv (by injection e)))
end Go.Proofs.Ytfbcjcfhdclklaa.maps
